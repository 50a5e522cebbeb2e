/-
  Part 8 of the contracts that the law rests on.
-/
import Derived.Deep.RegionHeld3
import Derived.LoopTactic
import Derived.Test.YteemdjamgbbjhaaWf4
import Derived.Test.YteemdjamgbbjhaaWf6
import Derived.Test.YteemdjamgbbjhaaWf7
/-
  The contract of Crash.
-/
namespace Go.Proofs.Yteemdjamgbbjhaa.Dsk
open Go.RowKit Go.Shelf Go.Proofs.Yteemdjamgbbjhaa.Wd

attribute [local go_sem] Oper.semAt_some

/-- the sectors behind these writes were taken back, one by one -/
def backF (s : List (List UInt8)) (l : List (Int × List UInt8 × List UInt8)) : List (List UInt8) := l.foldl (fun s p => s.set p.1.toNat p.2.1) s
theorem backF_snoc (s : List (List UInt8)) (l : List (Int × List UInt8 × List UInt8)) (p : Int × List UInt8 × List UInt8) : backF s (l ++ [p]) = (backF s l).set p.1.toNat p.2.1 := by simp [backF]
theorem backF_rev (s : List (List UInt8)) (l : List (Int × List UInt8 × List UInt8)) : backF s l.reverse = backM s l := by
  induction l with
  | nil => rfl
  | cons p ps ih => rw [List.reverse_cons, backF_snoc, ih]; rfl
theorem backF_len (l : List (Int × List UInt8 × List UInt8)) : ∀ s, (backF s l).length = s.length := by
  induction l with
  | nil => intro s; rfl
  | cons p ps ih => intro s; exact (ih _).trans (by simp)
/-- what the rounds of Crash hold: the disk, its variable, whatever lies outside -/
def CI (w : World) (F : Nat → Prop) (g gs c b2 : Nat) (A : Option Addr) (d : DM) (W : World) : Prop := DskAt W F g gs A c d ∧ W.cell? ⟨b2, 0, none⟩ = some (.pointer (some ⟨g, 0, none⟩)) ∧ Off F w W
theorem row_kept {W W' : World} {g : Nat} {t : TypeId} {cs : List Value} {row : Option Nat} (h : Row W g t cs) (hg : W.grownBy W' row) (hr : ∀ r, row = some r → ∃ o : Obj, W.heap[r]? = some o ∧ o.isCells = false) : Row W' g t cs :=
  h.grown hg (fun e => by
    obtain ⟨o, ho, hc⟩ := hr g e.symm
    rw [show W.heap[g]? = _ from h] at ho
    cases ho
    cases hc)
theorem CI.own {w : World} {F : Nat → Prop} {g gs c b2 : Nat} {A : Option Addr} {d : DM} {W W' : World} {row : Option Nat} (h : CI w F g gs c b2 A d W) (hg : W.grownBy W' row) (hr : ∀ r, row = some r → w.heap.size ≤ r ∧ ∃ o : Obj, W.heap[r]? = some o ∧ o.isCells = false) : CI w F g gs c b2 A d W' := by
  obtain ⟨h1, h2, h3⟩ := h
  have hr' := fun r e => (hr r e).2
  refine ⟨⟨h1.fg, h1.fs, h1.ne, h1.own, row_kept h1.row hg hr', row_kept h1.secs hg hr', ?_, h1.good⟩, cell_kept h2 hg hr', h3.grown hg (fun r e => .inr (hr r e).1)⟩
  rcases h1.pend with ⟨hl, hv | ⟨gp, cap, cur, hv, hb, hgp, hrest⟩⟩
  · exact ⟨hl, .inl hv⟩
  · refine ⟨hl, .inr ⟨gp, cap, cur, hv, hb, ?_, hrest⟩⟩
    have h0 : Row W gp 121 cur.toList := by show _ = _; simpa using hgp
    have h1 := row_kept h0 hg hr'
    have h2 : W'.heap[gp]? = _ := h1
    simpa using h2
/-- what an assignment of the loop lays: the write in a block of its own -/
def CA (F : Nat → Prop) (B b2 : Nat) (T : Nat → Value → Value → Array Value) {m : Nat} (x : IWr m) (a' : Act) (W : World) : Prop :=
  ∃ b6, ¬ F b6 ∧ B ≤ b6 ∧ b6 ≠ b2 ∧ Row W b6 121 (pcs x.1.2) ∧ a' = { tmps := T b6 (.int .i64 x.1.1) (.agg (pcs x.1.2).toArray), defers := [] }
theorem CI.below {w : World} {F : Nat → Prop} {g gs c b2 : Nat} {A : Option Addr} {d : DM} {W W' : World} (h : CI w F g gs c b2 A d W) (hb : Below W.heap.size W W') : CI w F g gs c b2 A d W' :=
  ⟨h.1.below hb, (hb.cell (p := ⟨b2, 0, none⟩) (World.block_lt_of_cell? W _ h.2.1)).trans h.2.1, h.2.2.trans (Ext.refl _ _ _) (Off.of_below hb)⟩
theorem DskAt.drew {w : World} {F : Nat → Prop} {g gs c : Nat} {A : Option Addr} {d : DM} (h : DskAt w F g gs A c d) : DskAt w.drew F g gs A c d := ⟨h.fg, h.fs, h.ne, h.own, h.row, h.secs, h.pend, h.good⟩
theorem size68 : (Try.prog.info? 75).map (·.size) = some 2 := by kernel_rfl
theorem nq (B : Nat) (Kp : World → World → Prop) {α : Type} (I : List α → World → Prop) (Ix : Code → List α → World → Prop) (xs : List α) (W : World) : ¬ LetsOut (ownPostG B Kp I Ix xs W) := fun ⟨_, _, h⟩ => h

set_option maxRecDepth 100000 in
set_option maxHeartbeats 4000000 in
theorem crash_any0 (g : Nat) (d : DM) (F : Nat → Prop) (A' : Option Addr) (n' c' : Nat) (keep : List Bool) (w : World) (h : Disk w F g d) (hp : d.pend.length ≤ 1000000) (hk : keep.length = n') (hv : Vs w w.heap.size A' (bools keep)) (hF : 0 < keep.length → ∀ b o s, A' = some ⟨b, o, s⟩ → ¬ F b) :
    Calls Try.prog 37 #[.pointer (some ⟨g, 0, none⟩), .slice A' n' c'] w fun e w' => e = .returned (.int .i64 0) ∧ Goes F w g (d.crashM keep) w' := by
  have hdisk := h
  obtain ⟨⟨gs, A, c, h⟩, hlow⟩ := h
  have hF0 : ¬ F w.heap.size := fun hf => by have := hlow _ hf; omega
  have hF1 : ¬ F (w.heap.size + 1) := fun hf => by have := hlow _ hf; omega
  have hb1 : Below w.heap.size w (w.alloc (.cells #[.pointer (some ⟨g, 0, none⟩)] 23)) := (Below.refl _ _).alloc (Nat.le_refl _) _
  have hw1 : Row (w.alloc (.cells #[.pointer (some ⟨g, 0, none⟩)] 23)) w.heap.size 23 [.pointer (some ⟨g, 0, none⟩)] := Row.new w _ _
  have hs1 : (w.alloc (.cells #[.pointer (some ⟨g, 0, none⟩)] 23)).heap.size = w.heap.size + 1 := by simp
  have h1 := h.below hb1
  have c1 : (w.alloc (.cells #[.pointer (some ⟨g, 0, none⟩)] 23)).cell? ⟨g, 1, none⟩ = some (.slice A d.pend.length c) := h1.row.cell 1
  have HV := Lib.hid hv
  have HF := Lib.hid hF
  have HK := Lib.hid hk
  have HDK := Lib.hid hdisk
  have HB1 := Lib.hid hb1
  have hz := zero81v
  clear hv hF hk hdisk h hb1
  refine (callsIn_wide (n := 9)).1 ?_
  refine callsIn_of_wp_marks Try.func37 rfl trivial ?_ rfl
  refine wpIn_wide.2 ?_
  simp only [Try.ntmps37, List.size_toArray, List.length_cons, List.length_nil, Nat.reduceAdd, Nat.reduceSub, Array.replicate_succ, Array.replicate_zero, List.push_toArray, List.append_toArray, List.nil_append, List.cons_append]
  go_wp2_with fail
  refine (backward_any A d.pend.length c _).mono ?_
  rintro e w2 ⟨rfl, hw2⟩
  have hb2 : Below (w.heap.size + 1) (w.alloc (.cells #[.pointer (some ⟨g, 0, none⟩)] 23)) w2 := by
    rw [hw2]
    exact (Below.refl _ _).alloc (by rw [hs1]; exact Nat.le_refl _) _
  have hr2 : Row w2 w.heap.size 23 [.pointer (some ⟨g, 0, none⟩)] := hw1.below hb2 (by omega)
  have hrB : Row w2 (w.heap.size + 1) 73 [.slice A d.pend.length c] := by
    have := Row.new (w.alloc (.cells #[.pointer (some ⟨g, 0, none⟩)] 23)) 73 [.slice A d.pend.length c]
    rw [hs1] at this
    rw [hw2]; exact this
  have h2 : DskAt w2 F g gs A c d := h1.below (by rw [hs1]; exact hb2)
  have hs2 : w2.heap.size = w.heap.size + 1 + 1 := by rw [hw2]; simp
  have hoff2 : Off F w w2 := Off.of_below (HB1.out.trans (hb2.mono (by omega)))
  clear hw2 hw1 c1 h1
  go_wp2_with fail
  have hgood := h2.good
  obtain ⟨sq, hsq, hrev⟩ := back_seq (m := d.sec.length) d.pend (fun p hp => hgood.pend p hp) hgood.pos
  have hown : ∀ k, A = some ⟨k, 0, none⟩ → F k := fun k e => (h2.own k (by rw [e]; rfl)).1
  have hKlt : ∀ k, (k = w.heap.size + 1 ∨ A = some ⟨k, 0, none⟩) → k < w2.heap.size ∧ k ≠ gs := fun k hk => by
    rcases hk with rfl | e
    · have := hlow gs h2.fs
      exact ⟨by omega, by omega⟩
    · have h3 := hlow k (hown k e)
      exact ⟨by omega, (h2.own k (by rw [e]; rfl)).2.2⟩
  have hcB : w2.cell? ⟨w.heap.size + 1, 0, none⟩ = some (.slice A d.pend.length c) := hrB.cell 0
  have hc2 : w2.cell? ⟨w.heap.size, 0, none⟩ = some (.pointer (some ⟨g, 0, none⟩)) := hr2.cell 0
  refine (wpIn_wide (n := 9)).1 ?_
  refine wpIn_rangeFunc_ownH (F := Fence.wide) (n := 9) rfl (by omega) (gf := 87) (lb := #[.pointer (some ⟨w.heap.size + 1, 0, none⟩)]) rfl trivial (enters_of Try.func87 (by kernel_rfl) rfl)
    (encs := encW (m := d.sec.length)) (Kp := KeepB (fun k => k = w.heap.size + 1 ∨ A = some ⟨k, 0, none⟩)) (S := fun xs => xs.map (fun x => x.1.2) = d.pend.reverse) (Sp := fun _ => True) (N := d.pend.length) (w0 := w2) ?hseq (fun h k => h.trans k) ?hKb (Below.refl _ _) (fun _ => rfl)
    (fun pre W => CI w F g gs c w.heap.size A { d with sec := backF d.sec (pre.map fun x => x.1.2) } W ∧ w2.heap.size ≤ W.heap.size) (fun _ _ _ => False) (fun s X Y row hs hg hr => ⟨CI.own hs.1 hg (fun r e => ⟨by have := (hr r e).1; omega, (hr r e).2⟩), Nat.le_trans hs.2 hg.size⟩) (fun _ _ _ _ _ h _ _ => h) ⟨⟨h2, hc2, hoff2⟩, Nat.le_refl _⟩ (CA F w2.heap.size w.heap.size (fun b6 v16 v17 => #[.pointer (some ⟨g, 0, none⟩), .slice A' n' c', .pointer (some ⟨w.heap.size, 0, none⟩), undef, .int .i64 0, undef, .pointer (some ⟨b6, 0, none⟩), undef, undef, .pointer (some ⟨g, 0, none⟩), .bool false, .pointer (some ⟨g, 0, none⟩), .pointer (some ⟨g, 0, none⟩), .pointer (some ⟨g, 1, none⟩), .slice A d.pend.length c, .func (.func 87) #[] #[.pointer (some ⟨w.heap.size + 1, 0, none⟩)], v16, v17, undef, undef, undef, undef, undef, undef, undef, undef, undef, undef, undef, undef, undef, undef, undef, undef, undef, undef, undef, undef, undef, undef, undef, undef, undef, undef, undef, undef, undef, undef, undef, undef, undef, undef, undef, undef, undef, undef, undef, undef, undef, undef, undef, undef, undef, undef, undef, undef, undef, undef, undef, undef, undef])) ?hAx ?assign ?body ?done ?stop
  case hseq =>
    intro l J Jx W hW _ _ hY h0
    refine (back_in l (w.heap.size + 1) d.pend.length c d.sec.length A d.pend hp 8 (by omega) sq hsq (fun k => k = w.heap.size + 1 ∨ A = some ⟨k, 0, none⟩) (.inl rfl) J Jx hY W ((hW.cell (p := ⟨w.heap.size + 1, 0, none⟩) (by show w.heap.size + 1 < _; omega)).trans hcB) (fun k hk => ?_) h0).mono ?_
    · obtain ⟨gp, e, hrg, hlt, _, _⟩ := h2.pend_range hk
      exact ⟨gp, e, .inr e, range_below hrg hW hlt⟩
    · rintro e W' ⟨he, ⟨ys, rfl, hj⟩ | ⟨pre, _, hj⟩⟩
      · exact ⟨he, .inl ⟨_, hrev, hj⟩⟩
      · exact ⟨he, .inr ⟨pre, trivial, hj⟩⟩
  case hKb =>
    intro W l o o' hl _ _ _ k hk
    exact World.putObj_heap_other (by have := (hKlt k hk).1; omega)
  case hAx =>
    rintro x a' _ X Y row ⟨b6, n1, n2, n3, r, e⟩ hg hr
    exact ⟨b6, n1, n2, n3, row_kept r hg (fun q e => (hr q e).2), e⟩
  case assign =>
    intro l pre x W K hI hK
    have hok := x.2
    have h129 : (pcs x.1.2).length = 129 := pcs_len _ hok.2.2.1 hok.2.2.2
    have HRN := Lib.hid (Row.new W 121 (pcs (0, nought, nought)))
    have HFT : Hid (0 + (pcs x.1.2).length ≤ (pcs (0, nought, nought)).length) := (show _ ≤ _ by rw [h129]; exact Nat.le_refl _)
    have HS : Hid ((Try.prog.info? 121).map (·.size) = some (pcs x.1.2).length) := (show _ = _ by rw [h129]; exact size81)
    have HI := Lib.hid hI.1
    have hWsz := hI.2
    unfold encW
    clear hI
    gi_wp2_with (first
      | (with_reducible refine wpListIn_store_in (op := ⟨none, _, _, _, _, _⟩) ?_ 121 (.tmp 6) (.tmp 17) ?_ W.heap.size 0 (pcs x.1.2) ?_ ?_ 121 (pcs (0, nought, nought)) ?_ HFT.out (pcs_one _) HS.out ?_))
    all_goals try (first | rfl | exact HRN.out)
    intro W3 hr3 hg3
    rw [splice_all (pcs (0, nought, nought)) (pcs x.1.2) (by rw [h129]; rfl)] at hr3
    have hb3 : Below W.heap.size W W3 := ((Below.refl _ _).alloc (Nat.le_refl _) _).grown hg3 (by simp) (fun j e => Nat.le_of_eq (Option.some.inj e))
    have hsW : w2.heap.size ≤ W.heap.size := hWsz
    refine hK _ W3 ⟨hb3.size, fun k o _ hk _ => (hb3.block k (Array.getElem?_eq_some_iff.1 hk).1).trans hk⟩ (fun k hk => hb3.block k (by have := (hKlt k hk).1; omega)) ⟨HI.out.below hb3, Nat.le_trans hsW hb3.size⟩ ⟨W.heap.size, fun hf => by have := hlow _ hf; omega, hsW, by omega, hr3, rfl⟩
  case body =>
    rintro l pre x a' W hl ⟨r, hr⟩ hI ⟨b6, n1, n2, n3, r6, rfl⟩ hlt
    obtain ⟨⟨hd, hbx, hoff⟩, hWsz⟩ := hI
    obtain ⟨⟨ix, p⟩, hok⟩ := x
    obtain ⟨sn, hsn⟩ := Int.eq_ofNat_of_zero_le hok.1
    have hp0 : p.1 = (sn : Int) := hsn
    have hlen : (backF d.sec (pre.map fun x => x.1.2)).length = d.sec.length := backF_len _ _
    have hsl : sn < d.sec.length := by have := hok.2.1; omega
    have hL64 : p.2.1.length = 64 := hok.2.2.1
    have k0 : W.cell? ⟨g, 0, none⟩ = some (.slice (some ⟨gs, 0, none⟩) d.sec.length d.sec.length) := by
      have := hd.row.cell 0
      simp only [dcs, hlen] at this
      exact this
    have k6 : W.cell? ⟨b6, 0, none⟩ = some (.int .i64 (sn : Int)) := by rw [← hp0]; exact r6.cell 0
    have hrg6 : W.rangeAt b6 1 (bv p.2.1) := Row.range r6 fun j v hj => by
      rw [Nat.add_comm]
      have hjl : j < (bv p.2.1).length := (List.getElem?_eq_some_iff.1 hj).1
      show (pcs p)[j + 1]? = some v
      simp only [pcs, List.getElem?_cons_succ]
      rw [List.getElem?_append_left hjl]; exact hj
    have HD := Lib.hid hd
    have HSZ : Hid ((Try.prog.info? 89).map (·.size) = some (bv p.2.1).length) := (show _ = _ by rw [bv_length, hL64]; exact size39)
    have HLW := Lib.hid hL64
    have HFI : Hid (sn * 64 + 64 ≤ (backF d.sec (pre.map fun x => x.1.2)).length * 64) := (show _ ≤ _ by rw [hlen]; omega)
    have hbF : b6 ≠ gs := fun e => n1 (e ▸ hd.fs)
    have hgg : g ≠ gs := hd.ne
    have hwg : w.heap.size ≠ gs := fun e => hF0 (e ▸ hd.fs)
    have hsi : (sn : Int) < (d.sec.length : Int) := by omega
    gi_wp2_with fail
    refine region_in (S := fun w' : World => w'.cell? ⟨w.heap.size, 0, none⟩ = some (.pointer (some ⟨g, 0, none⟩)) ∧ w'.cell? ⟨g, 0, none⟩ = some (.slice (some ⟨gs, 0, none⟩) d.sec.length d.sec.length) ∧ w'.cell? ⟨b6, 0, none⟩ = some (.int .i64 (sn : Int)) ∧ w'.rangeAt b6 1 (bv p.2.1)) (by kernel_rfl) (by rfl) (fun ⟨_, _, h⟩ => h) ⟨hbx, k0, k6, hrg6⟩ (fun hHeld => ?_)
    refine wpAnyH_take (i := 0) (oi := ⟨some 18, _, _, _, _, _⟩) (v := ?v0a) rfl (by kernel_rfl) (by kernel_rfl) (by kernel_rfl) (fun _ _ _ h => h) (Or.inl ⟨by rfl, ?y0a⟩) hHeld ?r0a
    case y0a =>
      rintro w' ⟨q0, q1, q2, q3⟩
      go_simp
      try with_reducible rfl
    try simp only [Act.put, List.setIfInBounds_toArray, List.set_cons_zero, List.set_cons_succ]
    refine wpAnyH_take (i := 1) (oi := ⟨some 19, _, _, _, _, _⟩) (v := ?v1a) rfl (by kernel_rfl) (by kernel_rfl) (by kernel_rfl) (fun _ _ _ h => h) (Or.inl ⟨by rfl, ?y1a⟩) hHeld ?r1a
    case y1a =>
      rintro w' ⟨q0, q1, q2, q3⟩
      go_simp
      try with_reducible rfl
    try simp only [Act.put, List.setIfInBounds_toArray, List.set_cons_zero, List.set_cons_succ]
    refine wpAnyH_take (i := 2) (oi := ⟨some 20, _, _, _, _, _⟩) (v := ?v2a) rfl (by kernel_rfl) (by kernel_rfl) (by kernel_rfl) (fun _ _ _ h => h) (Or.inl ⟨by rfl, ?y2a⟩) hHeld ?r2a
    case y2a =>
      rintro w' ⟨q0, q1, q2, q3⟩
      go_simp
      try with_reducible rfl
    try simp only [Act.put, List.setIfInBounds_toArray, List.set_cons_zero, List.set_cons_succ]
    refine wpAnyH_take (i := 3) (oi := ⟨some 21, _, _, _, _, _⟩) (v := ?v3a) rfl (by kernel_rfl) (by kernel_rfl) (by kernel_rfl) (fun _ _ _ h => h) (Or.inl ⟨by rfl, ?y3a⟩) hHeld ?r3a
    case y3a =>
      rintro w' ⟨q0, q1, q2, q3⟩
      go_simp
      try with_reducible rfl
    try simp only [Act.put, List.setIfInBounds_toArray, List.set_cons_zero, List.set_cons_succ]
    refine wpAnyH_take (i := 4) (oi := ⟨some 22, _, _, _, _, _⟩) (v := ?v4a) rfl (by kernel_rfl) (by kernel_rfl) (by kernel_rfl) (fun _ _ _ h => h) (Or.inl ⟨by rfl, ?y4a⟩) hHeld ?r4a
    case y4a =>
      rintro w' ⟨q0, q1, q2, q3⟩
      go_simp
      try with_reducible rfl
    try simp only [Act.put, List.setIfInBounds_toArray, List.set_cons_zero, List.set_cons_succ]
    refine wpAnyH_take (i := 5) (oi := ⟨some 23, _, _, _, _, _⟩) (v := ?v5a) rfl (by kernel_rfl) (by kernel_rfl) (by kernel_rfl) (fun _ _ _ h => h) (Or.inl ⟨by rfl, ?y5a⟩) hHeld ?r5a
    case y5a =>
      rintro w' ⟨q0, q1, q2, q3⟩
      go_simp
      try with_reducible rfl
    try simp only [Act.put, List.setIfInBounds_toArray, List.set_cons_zero, List.set_cons_succ]
    refine wpAnyH_take (i := 6) (oi := ⟨some 24, _, _, _, _, _⟩) (v := ?v6a) rfl (by kernel_rfl) (by kernel_rfl) (by kernel_rfl) (fun _ _ _ h => h) (Or.inl ⟨by rfl, ?y6a⟩) hHeld ?r6a
    case y6a =>
      rintro w' ⟨q0, q1, q2, q3⟩
      go_simp
      try with_reducible rfl
    try simp only [Act.put, List.setIfInBounds_toArray, List.set_cons_zero, List.set_cons_succ]
    refine wpAnyH_take (i := 7) (oi := ⟨some 25, _, _, _, _, _⟩) rfl (by kernel_rfl) (by kernel_rfl) (by kernel_rfl) (fun _ _ _ h => h) (yieldsIf_load_mid (by rfl) 89 (.tmp 24) rfl b6 1 ?x7a (bv p.2.1) _ (fun _ hS => hS.2.2.2) Try.underlying89 rfl HSZ.out) hHeld ?r7a
    case x7a => first | rfl | (simp [Act.eval, go_sem]; done)
    try simp only [Act.put, List.setIfInBounds_toArray, List.set_cons_zero, List.set_cons_succ]
    refine wpAnyH_take (i := 8) (oi := ⟨some 26, _, _, _, _, _⟩) (v := ?v8a) rfl (by kernel_rfl) (by kernel_rfl) (by kernel_rfl) (fun _ _ _ h => h) (Or.inl ⟨by rfl, ?y8a⟩) hHeld ?r8a
    case y8a =>
      rintro w' ⟨q0, q1, q2, q3⟩
      go_simp
      try with_reducible rfl
    try simp only [Act.put, List.setIfInBounds_toArray, List.set_cons_zero, List.set_cons_succ]
    refine wpAnyH_ready (rs := [9]) (by kernel_rfl) (by simp) ?_
    refine AllReadyH.cons rfl (fun K hK => ?_) AllReadyH.nil
    rw [if_pos (by rfl)]
    refine wp_store_mid 89 (.tmp 26) (.tmp 25) rfl gs (sn * 64) (bv p.2.1).toArray ?_ rfl ?_ ?_ (all_oneCell_toArray bv_one) ?_
    · first | rfl | (simp [Act.eval]; done)
    · rw [List.size_toArray]; exact Row.there HD.out.secs.drew (by rw [bv_length, bv_length, HLW.out, flat_len _ HD.out.good.sec]; exact HFI.out)
    · rw [List.size_toArray]; exact HSZ.out
    rw [List.toList_toArray]
    obtain ⟨hd3, ho3⟩ := sec_set (i := sn) HD.out (by show sn < (backF d.sec (pre.map fun x => x.1.2)).length; rw [hlen]; exact hsl) hL64
    have hg3 := grown_setCells gs (bv p.2.1) (sn * 64) W.drew
    generalize W.drew.setCells gs (sn * 64) (bv p.2.1) = W4 at hd3 ho3 hg3 ⊢
    have hsame : ∀ k, k < W.heap.size → k ≠ gs → W4.heap[k]? = W.heap[k]? := fun k hk hne => hg3.block k hk (fun e => hne (Option.some.inj e))
    have hcell : ∀ (bb o : Nat) (v : Value), bb ≠ gs → W.cell? ⟨bb, o, none⟩ = some v → W4.cell? ⟨bb, o, none⟩ = some v := fun bb o v hne hc => (World.cell?_of_block (a := ⟨bb, o, none⟩) (hsame bb (World.block_lt_of_cell? W _ hc) hne)).trans hc
    refine hK _ _ ⟨hcell _ _ _ hwg hbx, hcell _ _ _ hgg k0, hcell _ _ _ hbF k6, fun j v hj => hcell _ _ _ hbF (hrg6 j v hj)⟩ (fun _ => wpAnyH_done (by kernel_rfl) ?_ _)
    refine ⟨⟨ho3.size, fun k o hB hk _ => (hsame k (Array.getElem?_eq_some_iff.1 hk).1 (fun e => by have := hlow gs hd.fs; omega)).trans hk⟩, fun k hk => hsame k (Nat.lt_of_lt_of_le (hKlt k hk).1 hWsz) (hKlt k hk).2, ⟨?_, hcell _ _ _ hwg hbx, hoff.trans (Ext.refl _ _ _) ho3⟩, Nat.le_trans hWsz ho3.size⟩
    have e9 : backF d.sec ((pre ++ [(⟨(ix, p), hok⟩ : IWr d.sec.length)]).map fun x => x.1.2) = (backF d.sec (pre.map fun x => x.1.2)).set sn p.2.1 := by
      rw [List.map_append, List.map_cons, List.map_nil, backF_snoc]
      show (backF d.sec _).set p.1.toNat p.2.1 = _
      rw [hp0]; rfl
    rw [e9]
    exact hd3
  case done =>
    intro D xs W hD hS hI hK
    obtain ⟨⟨hd, hbx, hoff⟩, hWsz⟩ := hI
    have hsec : backF d.sec (xs.map fun x => x.1.2) = backM d.sec d.pend := by rw [hS, backF_rev]
    rw [hsec] at hd
    have hlen0 : (backM d.sec d.pend).length = d.sec.length := by rw [← backF_rev]; exact backF_len _ _
    obtain ⟨s0, hs0⟩ : ∃ s0, s0 = backM d.sec d.pend := ⟨_, rfl⟩
    rw [← hs0] at hd hlen0
    obtain ⟨n, hn⟩ : ∃ n, n = d.pend.length := ⟨_, rfl⟩
    have c1 : W.cell? ⟨g, 1, none⟩ = some (.slice A n c) := by rw [hn]; exact hd.row.cell 1
    have hDW : D < W.heap.size := (Array.getElem?_eq_some_iff.1 hK).1
    have hDw : w.heap.size ≤ D := by omega
    have hDF : ¬ F D := fun hf => by have := hlow D hf; omega
    have HI0 : Hid (CI w F g gs c w.heap.size A { d with sec := liveF s0 d.pend keep 0 } W ∧ Off F W W) := (show _ ∧ _ from ⟨⟨hd, hbx, hoff⟩, Off.refl _ _⟩)
    have HKD := Lib.hid hK
    have HN := Lib.hid hn
    have HS0 := Lib.hid hs0
    have HL0 := Lib.hid hlen0
    have HGD := Lib.hid hgood
    have HROFF := Lib.hid hoff
    rw [← hn] at hp ⊢
    have HPF := Lib.hid (fun k (hk : k < d.pend.length) => (hd.pend_range hk))
    clear hsec hs0 hK hd hgood hsq hrev hKlt hcB hc2 h2 hr2 hrB hs2 hb2 hoff2 hlen0 hoff hS
    have HOWN := Lib.hid hown
    clear hown hn
    go_wp2
    go_loopw [32] (fun i wr => ∃ k : Nat, k ≤ n ∧ i = .int .i64 k ∧ Hid (CI w F g gs c w.heap.size A { d with sec := liveF s0 d.pend keep k } wr ∧ Off F W wr)) (fun i _ => n - (intOf i).toNat)
    case atStart => exact ⟨0, by omega, rfl, HI0⟩
    case round =>
      obtain ⟨k, hk, rfl, HI⟩ := hrel
      rename World => wr
      by_cases hlt : k < n
      · have hkp : k < d.pend.length := by rw [← HN.out]; exact hlt
        obtain ⟨⟨hd, hbx, hoff⟩, hoffW⟩ := HI.out
        obtain ⟨gp, rfl, hrg, hgp, hFgp, _⟩ := hd.pend_range hkp
        have hrg' : wr.rangeAt gp (k * 129) (pcs (d.pend.getD k noWrite)) := hrg
        have hok : OkW d.sec.length (d.pend.getD k noWrite) := HGD.out.pend _ (by rw [List.getD_eq_getElem?_getD, List.getElem?_eq_getElem hkp]; exact List.getElem_mem hkp)
        have hsucc := liveF_succ s0 d.pend keep k
        have hlenk : (liveF s0 d.pend keep k).length = d.sec.length := (liveF_len _ _ _ _).trans HL0.out
        obtain ⟨sk, hsk⟩ : ∃ sk, sk = liveF s0 d.pend keep k := ⟨_, rfl⟩
        obtain ⟨p, hpk⟩ : ∃ p, p = d.pend.getD k noWrite := ⟨_, rfl⟩
        rw [← hsk, ← hpk] at hsucc
        rw [← hsk] at hlenk hd
        rw [← hpk] at hok hrg'
        have h129 : (pcs p).length = 129 := pcs_len p hok.2.2.1 hok.2.2.2
        have HRGP := Lib.hid hrg'
        have HSP : Hid ((Try.prog.info? 121).map (·.size) = some (pcs p).length) := (show _ = _ by rw [h129]; exact size81)
        have HFTP : Hid (0 + (pcs p).length ≤ (pcs (0, nought, nought)).length) := (show _ ≤ _ by rw [h129]; exact Nat.le_refl _)
        have HRN := Lib.hid (Row.new wr 121 (pcs (0, nought, nought)))
        have HSUC := Lib.hid hsucc
        have HOK := Lib.hid hok
        have HCI : Hid (CI w F g gs c w.heap.size (some ⟨gp, 0, none⟩) { d with sec := sk } wr) := (show CI _ _ _ _ _ _ _ _ _ from ⟨hd, hbx, hoff⟩)
        have HOW := Lib.hid hoffW
        have HLK := Lib.hid hlenk
        have H129 := Lib.hid h129
        clear hd hbx hoff hoffW hrg hrg' hok hsucc hlenk hsk hpk h129 HI
        go_wp2_with (first
          | (with_reducible refine wpList_load_mid (op := ⟨some 36, _, _, _, _, _⟩) ?_ 121 (.tmp 35) ?_ gp (k * 129) ?_ (pcs p) _ HRGP.out Try.underlying121 ?_ HSP.out ?_)
          | (with_reducible refine wpList_store_in (op := ⟨none, _, _, _, _, _⟩) ?_ 121 (.tmp 8) (.tmp 36) ?_ wr.heap.size 0 (pcs p) ?_ ?_ 121 (pcs (0, nought, nought)) ?_ HFTP.out (pcs_one p) HSP.out ?_))
        all_goals try (first | rfl | exact HRN.out | (simp; done))
        intro w5 hr5 hg5
        rw [splice_all (pcs (0, nought, nought)) (pcs p) (by rw [H129.out]; rfl)] at hr5
        have hb5 : Below wr.heap.size wr w5 := ((Below.refl _ _).alloc (Nat.le_refl _) _).grown hg5 (by simp) (fun j e => Nat.le_of_eq (Option.some.inj e))
        have hci5 := HCI.out.below hb5
        have how5 : Off F W w5 := HOW.out.trans (Ext.refl _ _ _) (Off.of_below hb5)
        have hsr : wr.heap.size < w5.heap.size := hr5.lt
        have hws : w.heap.size ≤ wr.heap.size := HCI.out.2.2.size
        have HCI5 := Lib.hid hci5
        have HOW5 := Lib.hid how5
        have HR5 := Lib.hid hr5
        clear hg5 hb5 hci5 how5 hr5 HCI HOW HRN HRGP
        by_cases hkk : k < n'
        · obtain ⟨bk, ok, rfl, hbk, hrk⟩ := HV.out (by simp [bools, HK.out]; omega)
          have hbv : (bools keep)[k]? = some (.bool (keep.getD k false)) := by simp [bools, List.getD_eq_getElem?_getD, show k < keep.length by rw [HK.out]; exact hkk]
          have hcell : w5.cell? ⟨bk, ok + k, none⟩ = some (.bool (keep.getD k false)) := HCI5.out.2.2.cell (a := ⟨bk, ok + k, none⟩) (HF.out (by rw [HK.out]; omega) bk ok none rfl) (hrk k _ hbv)
          have hki : (k : Int) < (n' : Int) := by omega
          cases hkeep : keep.getD k false with
          | true =>
            rw [hkeep] at hcell
            have HS2 : Hid (liveF s0 d.pend keep (k + 1) = sk.set p.1.toNat p.2.2) := (show _ = _ from by rw [HSUC.out, hkeep]; rfl)
            obtain ⟨hd, hbx, hoff⟩ := HCI5.out
            have hok := HOK.out
            obtain ⟨sn, hsn⟩ := Int.eq_ofNat_of_zero_le hok.1
            have hp0 : p.1 = (sn : Int) := hsn
            have hsl : sn < d.sec.length := by have := hok.2.1; omega
            have hL64 : p.2.2.length = 64 := hok.2.2.2
            have k0 : w5.cell? ⟨g, 0, none⟩ = some (.slice (some ⟨gs, 0, none⟩) d.sec.length d.sec.length) := by
              have := hd.row.cell 0
              simp only [dcs, HLK.out] at this
              exact this
            have k6 : w5.cell? ⟨wr.heap.size, 0, none⟩ = some (.int .i64 (sn : Int)) := by rw [← hp0]; exact HR5.out.cell 0
            have hrg6 : w5.rangeAt wr.heap.size 65 (bv p.2.2) := Row.range HR5.out fun j v hj => by
              show (pcs p)[65 + j]? = some v
              have h64 : (bv p.2.1).length = 64 := by rw [bv_length]; exact hok.2.2.1
              rw [show 65 + j = (64 + j) + 1 by omega]
              simp only [pcs, List.getElem?_cons_succ]
              rw [List.getElem?_append_right (by omega), h64, show 64 + j - 64 = j by omega]; exact hj
            have HD := Lib.hid hd
            have HSZ : Hid ((Try.prog.info? 89).map (·.size) = some (bv p.2.2).length) := (show _ = _ by rw [bv_length, hL64]; exact size39)
            have HLW := Lib.hid hL64
            have HFI : Hid (sn * 64 + 64 ≤ sk.length * 64) := (show _ ≤ _ by rw [HLK.out]; omega)
            have hbF : wr.heap.size ≠ gs := fun e => by have := hlow gs hd.fs; omega
            have hgg : g ≠ gs := hd.ne
            have hwg : w.heap.size ≠ gs := fun e => hF0 (e ▸ hd.fs)
            have hsi : (sn : Int) < (d.sec.length : Int) := by omega
            have HOFF := Lib.hid hoff
            clear hd hoff HCI5 hok hsn
            go_wp2_with fail
            refine wp_region_noPanic ?_
            refine wp_region_held_drew (S := fun w' : World => w'.cell? ⟨w.heap.size, 0, none⟩ = some (.pointer (some ⟨g, 0, none⟩)) ∧ w'.cell? ⟨g, 0, none⟩ = some (.slice (some ⟨gs, 0, none⟩) d.sec.length d.sec.length) ∧ w'.cell? ⟨wr.heap.size, 0, none⟩ = some (.int .i64 (sn : Int)) ∧ w'.rangeAt wr.heap.size 65 (bv p.2.2)) (by kernel_rfl) ⟨hbx, k0, k6, hrg6⟩ (fun hHeld => ?_)
            refine wpAnyH_take (i := 0) (oi := ⟨some 47, _, _, _, _, _⟩) (v := ?v0b) rfl (by kernel_rfl) (by kernel_rfl) (by kernel_rfl) (fun _ _ _ h => h) (Or.inl ⟨by rfl, ?y0b⟩) hHeld ?r0b
            case y0b =>
              rintro w' ⟨q0, q1, q2, q3⟩
              go_simp
              try with_reducible rfl
            try simp only [Act.put, List.setIfInBounds_toArray, List.set_cons_zero, List.set_cons_succ]
            refine wpAnyH_take (i := 1) (oi := ⟨some 48, _, _, _, _, _⟩) (v := ?v1b) rfl (by kernel_rfl) (by kernel_rfl) (by kernel_rfl) (fun _ _ _ h => h) (Or.inl ⟨by rfl, ?y1b⟩) hHeld ?r1b
            case y1b =>
              rintro w' ⟨q0, q1, q2, q3⟩
              go_simp
              try with_reducible rfl
            try simp only [Act.put, List.setIfInBounds_toArray, List.set_cons_zero, List.set_cons_succ]
            refine wpAnyH_take (i := 2) (oi := ⟨some 49, _, _, _, _, _⟩) (v := ?v2b) rfl (by kernel_rfl) (by kernel_rfl) (by kernel_rfl) (fun _ _ _ h => h) (Or.inl ⟨by rfl, ?y2b⟩) hHeld ?r2b
            case y2b =>
              rintro w' ⟨q0, q1, q2, q3⟩
              go_simp
              try with_reducible rfl
            try simp only [Act.put, List.setIfInBounds_toArray, List.set_cons_zero, List.set_cons_succ]
            refine wpAnyH_take (i := 3) (oi := ⟨some 50, _, _, _, _, _⟩) (v := ?v3b) rfl (by kernel_rfl) (by kernel_rfl) (by kernel_rfl) (fun _ _ _ h => h) (Or.inl ⟨by rfl, ?y3b⟩) hHeld ?r3b
            case y3b =>
              rintro w' ⟨q0, q1, q2, q3⟩
              go_simp
              try with_reducible rfl
            try simp only [Act.put, List.setIfInBounds_toArray, List.set_cons_zero, List.set_cons_succ]
            refine wpAnyH_take (i := 4) (oi := ⟨some 51, _, _, _, _, _⟩) (v := ?v4b) rfl (by kernel_rfl) (by kernel_rfl) (by kernel_rfl) (fun _ _ _ h => h) (Or.inl ⟨by rfl, ?y4b⟩) hHeld ?r4b
            case y4b =>
              rintro w' ⟨q0, q1, q2, q3⟩
              go_simp
              try with_reducible rfl
            try simp only [Act.put, List.setIfInBounds_toArray, List.set_cons_zero, List.set_cons_succ]
            refine wpAnyH_take (i := 5) (oi := ⟨some 52, _, _, _, _, _⟩) (v := ?v5b) rfl (by kernel_rfl) (by kernel_rfl) (by kernel_rfl) (fun _ _ _ h => h) (Or.inl ⟨by rfl, ?y5b⟩) hHeld ?r5b
            case y5b =>
              rintro w' ⟨q0, q1, q2, q3⟩
              go_simp
              try with_reducible rfl
            try simp only [Act.put, List.setIfInBounds_toArray, List.set_cons_zero, List.set_cons_succ]
            refine wpAnyH_take (i := 6) (oi := ⟨some 53, _, _, _, _, _⟩) (v := ?v6b) rfl (by kernel_rfl) (by kernel_rfl) (by kernel_rfl) (fun _ _ _ h => h) (Or.inl ⟨by rfl, ?y6b⟩) hHeld ?r6b
            case y6b =>
              rintro w' ⟨q0, q1, q2, q3⟩
              go_simp
              try with_reducible rfl
            try simp only [Act.put, List.setIfInBounds_toArray, List.set_cons_zero, List.set_cons_succ]
            refine wpAnyH_take (i := 7) (oi := ⟨some 54, _, _, _, _, _⟩) rfl (by kernel_rfl) (by kernel_rfl) (by kernel_rfl) (fun _ _ _ h => h) (yieldsIf_load_mid (by rfl) 89 (.tmp 53) rfl wr.heap.size 65 ?x7b (bv p.2.2) _ (fun _ hS => hS.2.2.2) Try.underlying89 rfl HSZ.out) hHeld ?r7b
            case x7b => first | rfl | (simp [Act.eval, go_sem]; done)
            try simp only [Act.put, List.setIfInBounds_toArray, List.set_cons_zero, List.set_cons_succ]
            refine wpAnyH_take (i := 8) (oi := ⟨some 55, _, _, _, _, _⟩) (v := ?v8b) rfl (by kernel_rfl) (by kernel_rfl) (by kernel_rfl) (fun _ _ _ h => h) (Or.inl ⟨by rfl, ?y8b⟩) hHeld ?r8b
            case y8b =>
              rintro w' ⟨q0, q1, q2, q3⟩
              go_simp
              try with_reducible rfl
            try simp only [Act.put, List.setIfInBounds_toArray, List.set_cons_zero, List.set_cons_succ]
            refine wpAnyH_ready (rs := [9]) (by kernel_rfl) (by simp) ?_
            refine AllReadyH.cons rfl (fun K hK => ?_) AllReadyH.nil
            rw [if_pos (by rfl)]
            refine wp_store_mid 89 (.tmp 55) (.tmp 54) rfl gs (sn * 64) (bv p.2.2).toArray ?_ rfl ?_ ?_ (all_oneCell_toArray bv_one) ?_
            · first | rfl | (simp [Act.eval]; done)
            · rw [List.size_toArray]; exact Row.there HD.out.secs.drew (by rw [bv_length, bv_length, HLW.out, flat_len _ HD.out.good.sec]; exact HFI.out)
            · rw [List.size_toArray]; exact HSZ.out
            rw [List.toList_toArray]
            obtain ⟨hd3, ho3⟩ := sec_set (i := sn) HD.out (by show sn < sk.length; rw [HLK.out]; exact hsl) hL64
            have hg3 := grown_setCells gs (bv p.2.2) (sn * 64) w5.drew
            generalize w5.drew.setCells gs (sn * 64) (bv p.2.2) = W4 at hd3 ho3 hg3 ⊢
            have hsame : ∀ k, k < w5.heap.size → k ≠ gs → W4.heap[k]? = w5.heap[k]? := fun k hk hne => hg3.block k hk (fun e => hne (Option.some.inj e))
            have hcl : ∀ (bb o : Nat) (v : Value), bb ≠ gs → w5.cell? ⟨bb, o, none⟩ = some v → W4.cell? ⟨bb, o, none⟩ = some v := fun bb o v hne hc => (World.cell?_of_block (a := ⟨bb, o, none⟩) (hsame bb (World.block_lt_of_cell? w5 _ hc) hne)).trans hc
            refine hK _ _ ⟨hcl _ _ _ hwg hbx, hcl _ _ _ hgg k0, hcl _ _ _ hbF k6, fun j v hj => hcl _ _ _ hbF (hrg6 j v hj)⟩ (fun _ => wpAnyH_done (by kernel_rfl) (NoPanic.normal ?_) _)
            have HI6 : Hid (CI w F g gs c w.heap.size (some ⟨gp, 0, none⟩) { d with sec := liveF s0 d.pend keep (k + 1) } W4 ∧ Off F W W4) := (show _ ∧ _ from by
              rw [HS2.out, hp0]
              exact ⟨⟨hd3, hcl _ _ _ hwg hbx, HOFF.out.trans (Ext.refl _ _ _) ho3⟩, HOW5.out.trans (Ext.refl _ _ _) ho3⟩)
            clear hK K hd3 ho3 hg3 hsame hcl hHeld hcell
            go_wp2
            go_roundw
            case rel => exact ⟨k + 1, by omega, by go_num, HI6⟩
            case measure => simp [intOf]; omega
          | false =>
            rw [hkeep] at hcell
            have HI6 : Hid (CI w F g gs c w.heap.size (some ⟨gp, 0, none⟩) { d with sec := liveF s0 d.pend keep (k + 1) } w5 ∧ Off F W w5) := (show _ ∧ _ from by
              have e : liveF s0 d.pend keep (k + 1) = sk := by rw [HSUC.out, hkeep]; rfl
              rw [e]
              exact ⟨HCI5.out, HOW5.out⟩)
            go_wp2
            go_roundw
            case rel => exact ⟨k + 1, by omega, by go_num, HI6⟩
            case measure => simp [intOf]; omega
        · have hkf : keep.getD k false = false := by
            rw [List.getD_eq_getElem?_getD, List.getElem?_eq_none (by rw [HK.out]; omega)]; rfl
          have HI6 : Hid (CI w F g gs c w.heap.size (some ⟨gp, 0, none⟩) { d with sec := liveF s0 d.pend keep (k + 1) } w5 ∧ Off F W w5) := (show _ ∧ _ from by
            have e : liveF s0 d.pend keep (k + 1) = sk := by rw [HSUC.out, hkf]; rfl
            rw [e]
            exact ⟨HCI5.out, HOW5.out⟩)
          have hki : ¬ (k : Int) < (n' : Int) := by omega
          go_wp2
          go_roundw
          case rel => exact ⟨k + 1, by omega, by go_num, HI6⟩
          case measure => simp [intOf]; omega
      · obtain rfl : k = n := by omega
        obtain ⟨⟨hd, hbx, hoff⟩, hoffW⟩ := HI.out
        have hd1 := pend_none hd
        have z1 := hd.row.frozen 1
        have y1 : wr.cell? ⟨g, 1, none⟩ = some (.slice A d.pend.length c) := hd.row.cell 1
        have hgw : g ≠ w.heap.size := fun e => hF0 (e ▸ hd.fg)
        have hoff1 : Off F w (wr.setCell ⟨g, 1, none⟩ (.slice none 0 0)) := hoff.setCell (.inl hd.fg) _
        have hoffW1 : Off F W (wr.setCell ⟨g, 1, none⟩ (.slice none 0 0)) := hoffW.setCell (.inl hd.fg) _
        have hbx1 : (wr.setCell ⟨g, 1, none⟩ (.slice none 0 0)).cell? ⟨w.heap.size, 0, none⟩ = some (.pointer (some ⟨g, 0, none⟩)) := (World.cell?_setCell_other _ _ _ _ (fun e => by have h9 := congrArg Addr.block e; simp at h9; exact hgw (by omega))).trans hbx
        have HD1 := Lib.hid hd1
        have HO1 := Lib.hid hoff1
        have HOW1 := Lib.hid hoffW1
        have HBX1 := Lib.hid hbx1
        have hfg := hd.fg
        clear hd hoff hoffW hd1 hoff1 hoffW1 hbx1 HI
        go_wp2_with fail
        obtain ⟨w7, hw7⟩ : ∃ w7, w7 = wr.setCell ⟨g, 1, none⟩ (.slice none 0 0) := ⟨_, rfl⟩
        rw [← hw7] at HD1 HO1 HOW1 HBX1 ⊢
        have hbx7 := HBX1.out
        have HB68 := Lib.hid (show Try.prog.built 75 [] = some #[.bool false, .int .i64 0] by kernel_rfl)
        have y2 : w7.drew.cell? ⟨g, 2, none⟩ = some (.bool d.dead) := HD1.out.row.cell 2
        have y3 : w7.drew.cell? ⟨g, 3, none⟩ = some (.bool d.ps) := HD1.out.row.cell 3
        have y4 : w7.drew.cell? ⟨g, 4, none⟩ = some (.int .i64 d.pl) := HD1.out.row.cell 4
        have y5 : w7.drew.cell? ⟨g, 5, none⟩ = some (.bool d.fs) := HD1.out.row.cell 5
        have y6 : w7.drew.cell? ⟨g, 6, none⟩ = some (.int .i64 d.fl) := HD1.out.row.cell 6
        have z2 : w7.drew.frozen? ⟨g, 2, none⟩ = false := HD1.out.row.frozen 2
        have z3 : w7.drew.frozen? ⟨g, 3, none⟩ = false := HD1.out.row.frozen 3
        have z4 : w7.drew.frozen? ⟨g, 4, none⟩ = false := HD1.out.row.frozen 4
        have z5 : w7.drew.frozen? ⟨g, 5, none⟩ = false := HD1.out.row.frozen 5
        have z6 : w7.drew.frozen? ⟨g, 6, none⟩ = false := HD1.out.row.frozen 6
        clear hw7 y1 z1
        refine wp_region_noPanic ?_
        refine wp_region_held_drew (S := fun w' : World => w'.cell? ⟨w.heap.size, 0, none⟩ = some (.pointer (some ⟨g, 0, none⟩))) (by kernel_rfl) hbx7 (fun hHeld => ?_)
        refine wpAnyH_take (i := 0) (oi := ⟨some 60, _, _, _, _, _⟩) (v := ?v0z) rfl (by kernel_rfl) (by kernel_rfl) (by kernel_rfl) (fun _ _ _ h => h) (Or.inl ⟨by rfl, ?y0z⟩) hHeld ?r0z
        case y0z =>
          rintro w' q0
          go_simp
          try with_reducible rfl
        try simp only [Act.put, List.setIfInBounds_toArray, List.set_cons_zero, List.set_cons_succ]
        refine wpAnyH_take (i := 1) (oi := ⟨some 61, _, _, _, _, _⟩) (v := ?v1z) rfl (by kernel_rfl) (by kernel_rfl) (by kernel_rfl) (fun _ _ _ h => h) (Or.inl ⟨by rfl, ?y1z⟩) hHeld ?r1z
        case y1z =>
          rintro w' q0
          go_simp
          try with_reducible rfl
        try simp only [Act.put, List.setIfInBounds_toArray, List.set_cons_zero, List.set_cons_succ]
        refine wpAnyH_take (i := 2) (oi := ⟨some 62, _, _, _, _, _⟩) (v := ?v2z) rfl (by kernel_rfl) (by kernel_rfl) (by kernel_rfl) (fun _ _ _ h => h) (Or.inl ⟨by rfl, ?y2z⟩) hHeld ?r2z
        case y2z =>
          rintro w' q0
          go_simp
          try with_reducible rfl
        try simp only [Act.put, List.setIfInBounds_toArray, List.set_cons_zero, List.set_cons_succ]
        refine wpAnyH_take (i := 3) (oi := ⟨some 63, _, _, _, _, _⟩) rfl (by kernel_rfl) (by kernel_rfl) (by kernel_rfl) (fun _ _ _ h => h) (yieldsIf_build (by rfl) 75 _ rfl #[.bool false, .int .i64 0] ?x3z) hHeld ?r3z
        case x3z => first | exact HB68.out | (simp only [List.map_toArray, List.map_nil, List.toList_toArray]; exact HB68.out)
        try simp only [Act.put, List.setIfInBounds_toArray, List.set_cons_zero, List.set_cons_succ]
        refine wpAnyH_take (i := 4) (oi := ⟨some 64, _, _, _, _, _⟩) rfl (by kernel_rfl) (by kernel_rfl) (by kernel_rfl) (fun _ _ _ h => h) (yieldsIf_build (by rfl) 75 _ rfl #[.bool false, .int .i64 0] ?x4z) hHeld ?r4z
        case x4z => first | exact HB68.out | (simp only [List.map_toArray, List.map_nil, List.toList_toArray]; exact HB68.out)
        try simp only [Act.put, List.setIfInBounds_toArray, List.set_cons_zero, List.set_cons_succ]
        refine wpAnyH_take (i := 5) (oi := ⟨some 65, _, _, _, _, _⟩) (v := ?v5z) rfl (by kernel_rfl) (by kernel_rfl) (by kernel_rfl) (fun _ _ _ h => h) (Or.inl ⟨by rfl, ?y5z⟩) hHeld ?r5z
        case y5z =>
          rintro w' q0
          go_simp
          try with_reducible rfl
        try simp only [Act.put, List.setIfInBounds_toArray, List.set_cons_zero, List.set_cons_succ]
        refine wpAnyH_take (i := 6) (oi := ⟨some 66, _, _, _, _, _⟩) (v := ?v6z) rfl (by kernel_rfl) (by kernel_rfl) (by kernel_rfl) (fun _ _ _ h => h) (Or.inl ⟨by rfl, ?y6z⟩) hHeld ?r6z
        case y6z =>
          rintro w' q0
          go_simp
          try with_reducible rfl
        try simp only [Act.put, List.setIfInBounds_toArray, List.set_cons_zero, List.set_cons_succ]
        refine wpAnyH_ready (rs := [7]) (by kernel_rfl) (by simp) ?_
        refine AllReadyH.cons rfl (fun K hK => ?_) AllReadyH.nil
        rw [if_pos (by rfl)]
        go_simp
        obtain ⟨w8, hw8⟩ : ∃ w8, w8 = w7.drew.setCell ⟨g, 2, none⟩ (.bool false) := ⟨_, rfl⟩
        have hd8 : DskAt w8 F g gs none 0 { (({ d with sec := liveF s0 d.pend keep k, pend := [] } : DM)) with dead := false } := by
          rw [hw8]
          exact (DskAt.drew HD1.out).store (i := 2) rfl rfl rfl ⟨HD1.out.good.pos, HD1.out.good.most, HD1.out.good.sec, HD1.out.good.pend, HD1.out.good.left⟩
        have ho8 : Off F w w8 := by rw [hw8]; exact (Off.drew HO1.out).setCell (.inl hfg) _
        have how8 : Off F W w8 := by rw [hw8]; exact (Off.drew HOW1.out).setCell (.inl hfg) _
        have hne : ∀ (wz : World) (i : Nat) (v : Value), wz.cell? ⟨w.heap.size, 0, none⟩ = some (.pointer (some ⟨g, 0, none⟩)) → (wz.setCell ⟨g, i, none⟩ v).cell? ⟨w.heap.size, 0, none⟩ = some (.pointer (some ⟨g, 0, none⟩)) := fun wz i v h => (World.cell?_setCell_other _ _ _ _ (fun e => by have h9 := congrArg Addr.block e; simp at h9; exact hgw (by omega))).trans h
        have hb8 : w8.cell? ⟨w.heap.size, 0, none⟩ = some (.pointer (some ⟨g, 0, none⟩)) := by rw [hw8]; exact hne _ _ _ hbx7
        have e8 : (w7.setCell ⟨g, 2, none⟩ (.bool false)).drew = w8 := hw8.symm
        rw [e8]
        refine hK _ w8 hb8 (fun _ => ?_)
        try simp only [Act.put, List.setIfInBounds_toArray, List.set_cons_zero, List.set_cons_succ]
        clear hw8 e8 hK K y2 y3 y4 y5 y6 z2 z3 z4 z5 z6
        refine wpAnyH_take (i := 8) (oi := ⟨some 67, _, _, _, _, _⟩) (v := ?v8z) rfl (by kernel_rfl) (by kernel_rfl) (by kernel_rfl) (fun _ _ _ h => h) (Or.inl ⟨by rfl, ?y8z⟩) hb8 ?r8z
        case y8z =>
          rintro w' q0
          go_simp
          try with_reducible rfl
        try simp only [Act.put, List.setIfInBounds_toArray, List.set_cons_zero, List.set_cons_succ]
        refine wpAnyH_take (i := 9) (oi := ⟨some 68, _, _, _, _, _⟩) (v := ?v9z) rfl (by kernel_rfl) (by kernel_rfl) (by kernel_rfl) (fun _ _ _ h => h) (Or.inl ⟨by rfl, ?y9z⟩) hb8 ?r9z
        case y9z =>
          rintro w' q0
          go_simp
          try with_reducible rfl
        try simp only [Act.put, List.setIfInBounds_toArray, List.set_cons_zero, List.set_cons_succ]
        refine wpAnyH_ready (rs := [10]) (by kernel_rfl) (by simp) ?_
        refine AllReadyH.cons rfl (fun K hK => ?_) AllReadyH.nil
        rw [if_pos (by rfl)]
        refine wp_store_mid 75 (.tmp 68) (.tmp 63) rfl g 3 #[.bool false, .int .i64 0] rfl rfl (Row.there hd8.row (by show 3 + 2 ≤ 8; omega)) size68 (by simp [Value.oneCell']) ?_
        have hd9 : DskAt (w8.setCells g 3 [.bool false, .int .i64 0]) F g gs none 0 { (({ d with sec := liveF s0 d.pend keep k, pend := [] } : DM)) with dead := false, ps := false, pl := 0 } := by
          show DskAt ((w8.setCell ⟨g, 3, none⟩ (.bool false)).setCell ⟨g, 3 + 1, none⟩ (.int .i64 0)) _ _ _ _ _ _
          refine (hd8.store (i := 3) (v := .bool false) (d' := { (({ d with sec := liveF s0 d.pend keep k, pend := [] } : DM)) with dead := false, ps := false }) rfl rfl rfl ⟨hd8.good.pos, hd8.good.most, hd8.good.sec, hd8.good.pend, hd8.good.left⟩).store (i := 4) rfl rfl rfl ⟨hd8.good.pos, hd8.good.most, hd8.good.sec, hd8.good.pend, ?_⟩
          have hl := hd8.good.left
          exact ⟨Int.le_refl _, by show (0 : Int) < _; omega, hl.2.2⟩
        have hb9 : (w8.setCells g 3 [.bool false, .int .i64 0]).cell? ⟨w.heap.size, 0, none⟩ = some (.pointer (some ⟨g, 0, none⟩)) := hne _ _ _ (hne _ _ _ hb8)
        have ho9 : Off F w (w8.setCells g 3 [.bool false, .int .i64 0]) := (ho8.setCell (p := ⟨g, 3, none⟩) (.inl hfg) _).setCell (p := ⟨g, 4, none⟩) (.inl hfg) _
        have how9 : Off F W (w8.setCells g 3 [.bool false, .int .i64 0]) := (how8.setCell (p := ⟨g, 3, none⟩) (.inl hfg) _).setCell (p := ⟨g, 4, none⟩) (.inl hfg) _
        rw [show (#[.bool false, .int .i64 0] : Array Value).toList = [.bool false, .int .i64 0] from rfl]
        generalize w8.setCells g 3 [.bool false, .int .i64 0] = w9 at hd9 hb9 ho9 how9 ⊢
        refine hK _ w9 hb9 (fun _ => ?_)
        try simp only [Act.put, List.setIfInBounds_toArray, List.set_cons_zero, List.set_cons_succ]
        clear hK K hd8 hb8 ho8 how8
        refine wpAnyH_take (i := 11) (oi := ⟨some 69, _, _, _, _, _⟩) (v := ?v11z) rfl (by kernel_rfl) (by kernel_rfl) (by kernel_rfl) (fun _ _ _ h => h) (Or.inl ⟨by rfl, ?y11z⟩) hb9 ?r11z
        case y11z =>
          rintro w' q0
          go_simp
          try with_reducible rfl
        try simp only [Act.put, List.setIfInBounds_toArray, List.set_cons_zero, List.set_cons_succ]
        refine wpAnyH_take (i := 12) (oi := ⟨some 70, _, _, _, _, _⟩) (v := ?v12z) rfl (by kernel_rfl) (by kernel_rfl) (by kernel_rfl) (fun _ _ _ h => h) (Or.inl ⟨by rfl, ?y12z⟩) hb9 ?r12z
        case y12z =>
          rintro w' q0
          go_simp
          try with_reducible rfl
        try simp only [Act.put, List.setIfInBounds_toArray, List.set_cons_zero, List.set_cons_succ]
        refine wpAnyH_ready (rs := [13]) (by kernel_rfl) (by simp) ?_
        refine AllReadyH.cons rfl (fun K hK => ?_) AllReadyH.nil
        rw [if_pos (by rfl)]
        refine wp_store_mid 75 (.tmp 70) (.tmp 64) rfl g 5 #[.bool false, .int .i64 0] rfl rfl (Row.there hd9.row (by show 5 + 2 ≤ 8; omega)) size68 (by simp [Value.oneCell']) ?_
        have hd10 : DskAt (w9.setCells g 5 [.bool false, .int .i64 0]) F g gs none 0 { (({ d with sec := liveF s0 d.pend keep k, pend := [] } : DM)) with dead := false, ps := false, pl := 0, fs := false, fl := 0 } := by
          show DskAt ((w9.setCell ⟨g, 5, none⟩ (.bool false)).setCell ⟨g, 5 + 1, none⟩ (.int .i64 0)) _ _ _ _ _ _
          refine (hd9.store (i := 5) (v := .bool false) (d' := { (({ d with sec := liveF s0 d.pend keep k, pend := [] } : DM)) with dead := false, ps := false, pl := 0, fs := false }) rfl rfl rfl ⟨hd9.good.pos, hd9.good.most, hd9.good.sec, hd9.good.pend, hd9.good.left⟩).store (i := 6) rfl rfl rfl ⟨hd9.good.pos, hd9.good.most, hd9.good.sec, hd9.good.pend, ?_⟩
          have hl := hd9.good.left
          exact ⟨hl.1, hl.2.1, Int.le_refl _, by show (0 : Int) < _; omega⟩
        have hb10 : (w9.setCells g 5 [.bool false, .int .i64 0]).cell? ⟨w.heap.size, 0, none⟩ = some (.pointer (some ⟨g, 0, none⟩)) := hne _ _ _ (hne _ _ _ hb9)
        have ho10 : Off F w (w9.setCells g 5 [.bool false, .int .i64 0]) := (ho9.setCell (p := ⟨g, 5, none⟩) (.inl hfg) _).setCell (p := ⟨g, 6, none⟩) (.inl hfg) _
        have how10 : Off F W (w9.setCells g 5 [.bool false, .int .i64 0]) := (how9.setCell (p := ⟨g, 5, none⟩) (.inl hfg) _).setCell (p := ⟨g, 6, none⟩) (.inl hfg) _
        rw [show (#[.bool false, .int .i64 0] : Array Value).toList = [.bool false, .int .i64 0] from rfl]
        generalize w9.setCells g 5 [.bool false, .int .i64 0] = w10 at hd10 hb10 ho10 how10 ⊢
        refine hK _ w10 hb10 (fun _ => wpAnyH_done (by kernel_rfl) (NoPanic.normal ?_) _)
        have hKD : w10.heap[D]? = some (.deferred (some [])) := (how10.block D hDW hDF).trans HKD.out
        have hcm : d.crashM keep = { (({ d with sec := liveF s0 d.pend keep k, pend := [] } : DM)) with dead := false, ps := false, pl := 0, fs := false, fl := 0 } := by
          rw [DM.crashM, liveM, HS0.out, ← HN.out]
        rw [← hcm] at hd10
        have HKDD := Lib.hid hKD
        have HD10 := Lib.hid hd10
        have HO10 := Lib.hid ho10
        clear hK K hd9 hb9 ho9 how9 hd10 hb10 ho10 how10 hKD hcm
        go_wp2
        refine ⟨by simp, .inl ⟨_, _, rfl, run_takeDeferred HKDD.out, ?_⟩⟩
        have hg11 := grownBy_putObj' w10 D (.deferred none)
        have hd11 : DskAt (w10.putObj D (.deferred none)) F g gs none 0 (d.crashM keep) := HD10.out.off (F' := fun j => j = D) (fun j hj e => hDF (e ▸ hj)) (Off.of_grown hg11 (fun j e => (Option.some.inj e).symm))
        have ho11 : Off F w (w10.putObj D (.deferred none)) := HO10.out.grown hg11 (fun j e => .inr (by have := Option.some.inj e; omega))
        exact ⟨_, results_tmp rfl _ _ _, ⟨rfl, Goes.mk HDK.out hd11 (Ext.refl _ _ _) ho11⟩⟩
  case stop =>
    intro D c pre W _ _ h _
    exact h.elim
theorem crash_any (g : Nat) (d : DM) (F : Nat → Prop) (A' : Option Addr) (n' c' : Nat) (keep : List Bool) (w : World) (h : Disk w F g d) (hp : d.pend.length ≤ 1000000) (hk : keep.length = n') (hv : Vs w w.heap.size A' (bools keep)) (hF : ∀ b o s, A' = some ⟨b, o, s⟩ → ¬ F b) :
    Calls Try.prog 37 #[.pointer (some ⟨g, 0, none⟩), .slice A' n' c'] w fun e w' => e = .returned (.int .i64 0) ∧ Goes F w g (d.crashM keep) w' :=
  crash_any0 g d F A' n' c' keep w h hp hk hv (fun _ => hF)
end Go.Proofs.Yteemdjamgbbjhaa.Dsk

/-
  Ops on a log that lies on a disk on which nothing fails; an append that the power may cut.
-/
namespace Go.Proofs.Yteemdjamgbbjhaa.Wl
set_option maxRecDepth 100000
open Go.RowKit Go.Shelf Go.Proofs.Yteemdjamgbbjhaa.Wd Go.Proofs.Yteemdjamgbbjhaa.Dsk Go.Proofs.Yteemdjamgbbjhaa.Oct Go.Proofs.Yteemdjamgbbjhaa.Sum Go.Proofs.Yteemdjamgbbjhaa.Beq

theorem log_off {w w' : World} {F G : Nat → Prop} {g dg dg2 area t : Nat} {fs : List (List UInt8)} {br : Bool} {d : DM} (h : Log w G g dg area t fs br) (hd : Dk w F dg2 d) (ho : Off F w w') : Log w' G g dg area t fs br := by
  obtain ⟨A, c, xs, h1, h2, h3, h4, h5⟩ := h
  refine ⟨A, c, xs, (ho.block g h1.lt (hd.not h1 (by decide) (by decide) (by decide))).trans h1, own_kept h2 (fun k hk hlt => ho.block k hlt ?_), h3, h4, fun i hi => ?_⟩
  · obtain ⟨cs, hr⟩ := own_type h2 hk
    exact hd.not hr (by decide) (by decide) (by decide)
  · obtain ⟨Ai, ni, ci, q1, q2, q3, q4⟩ := h5 i hi
    refine ⟨Ai, ni, ci, q1, own_kept q2 (fun k hk hlt => ho.block k hlt ?_), q3, q4⟩
    obtain ⟨cs, hr⟩ := own_type q2 hk
    exact hd.not hr (by decide) (by decide) (by decide)
/-- what a round of ops holds of the log -/
structure TJ (w1 : World) (dg g r t : Nat) (fs : List (List UInt8)) (W : World) : Prop where
  st : ∃ F G d, Dk W F dg d ∧ Log W G g dg 10 t fs false ∧ (∀ k, F k → w1.heap.size ≤ k) ∧ (∀ k, G k → w1.heap.size ≤ k ∧ k < W.heap.size) ∧ Lies d t 10 fs
  tt : t ≤ r
  len : fs.length ≤ r + 1
  hb : Below w1.heap.size w1 W
theorem TJ.below {w1 W W' : World} {dg g r t : Nat} {fs : List (List UInt8)} (h : TJ w1 dg g r t fs W) (hb : Below W.heap.size W W') : TJ w1 dg g r t fs W' := by
  obtain ⟨⟨F, G, d, h1, h2, h3, h4, h5⟩, q1, q2, q3⟩ := h
  exact ⟨⟨F, G, d, h1.below hb, log_below h2 hb, h3, fun k hk => ⟨(h4 k hk).1, Nat.lt_of_lt_of_le (h4 k hk).2 hb.size⟩, h5⟩, q1, q2, q3.trans (hb.mono q3.size)⟩
theorem app_turn {w1 : World} {dg g r t : Nat} {fs : List (List UInt8)} {W : World} (h : TJ w1 dg g r t fs W) (hr : r ≤ 40) (A2 : Option Addr) (m c2 : Nat) (b : List UInt8) (hby : By W A2 m c2 b) (hbl : b.length = m) (hm : m ≤ 400) :
    Calls Try.prog 16 #[.pointer (some ⟨g, 0, none⟩), .slice A2 m c2] W fun e W' => (∃ v, e = .returned (.int .i64 v)) ∧ ∃ t' fs', TJ w1 dg g (r + 1) t' fs' W' := by
  obtain ⟨⟨F, G, d, hd, hlog, hF, hG, hl⟩, ht, hlen, hb⟩ := h
  have hus := hl.shows.used
  by_cases hroom : sects m ≤ 10 - usedM fs
  · have hap := append_lies hl (b := b) (by omega) (by rw [hbl]; exact hroom)
    refine (append_ok g dg 10 t fs A2 m c2 b d F G W hlog hd hby.sl (by omega) (by omega) hl.shows.tm hus hroom (by omega) (by rw [hl.pend]; exact Nat.zero_le _)).mono ?_
    rintro e W' ⟨rfl, F6, G6, hd6, hx6, hy6, ho6, hl6⟩
    rw [hap.1] at hl6
    rw [if_pos rfl, show decide ((0 : Int) ≠ 0) = false by decide] at hl6
    exact ⟨⟨_, rfl⟩, t, fs ++ [b], ⟨F6, _, _, hd6, tight hl6, ext_new hb.size hx6 hF, fun k hk => ⟨ext_new hb.size hy6 (fun k hk => (hG k hk).1) k hk.1, hk.2⟩, hap.2⟩, by omega, by rw [List.length_append]; simp only [List.length_cons, List.length_nil]; omega, below_off hb ho6 (fun k hk => hk.elim (hF k) (fun h => (hG k h).1))⟩
  · refine (append_full g dg 10 t fs A2 m c2 G W hlog (by omega) (by omega) hus (by omega)).mono ?_
    rintro e W' ⟨rfl, hb6⟩
    exact ⟨⟨_, rfl⟩, t, fs, ⟨F, G, d, hd.below hb6, log_below hlog hb6, hF, fun k hk => ⟨(hG k hk).1, Nat.lt_of_lt_of_le (hG k hk).2 hb6.size⟩, hl⟩, by omega, by omega, hb.trans (hb6.mono hb.size)⟩
theorem chk_turn {w1 : World} {dg g r t : Nat} {fs : List (List UInt8)} {W : World} (h : TJ w1 dg g r t fs W) (hr : r ≤ 40) (A2 : Option Addr) (m c2 : Nat) (b : List UInt8) (hby : By W A2 m c2 b) (hbl : b.length = m) (hm : m ≤ 400) :
    Calls Try.prog 17 #[.pointer (some ⟨g, 0, none⟩), .slice A2 m c2] W fun e W' => (∃ v, e = .returned (.int .i64 v)) ∧ ∃ t' fs', TJ w1 dg g (r + 1) t' fs' W' := by
  obtain ⟨⟨F, G, d, hd, hlog, hF, hG, hl⟩, ht, hlen, hb⟩ := h
  have hroom : sects m ≤ 10 := by unfold sects; omega
  have hap := check_lies hl (b := b) (by omega) (by omega) (by rw [hbl]; exact hroom)
  refine (check_ok g dg 10 t fs A2 m c2 b d F G W hlog hd hby.sl (by omega) (by omega) (by omega) hroom (by rw [hl.pend]; exact Nat.zero_le _)).mono ?_
  rintro e W' ⟨rfl, F6, G6, hd6, hx6, hy6, ho6, hl6⟩
  rw [hap.1] at hl6
  rw [if_pos rfl, if_pos rfl, show decide ((0 : Int) ≠ 0) = false by decide] at hl6
  exact ⟨⟨_, rfl⟩, t + 1, [b], ⟨F6, _, _, hd6, tight hl6, ext_new hb.size hx6 hF, fun k hk => ⟨ext_new hb.size hy6 (fun k hk => (hG k hk).1) k hk.1, hk.2⟩, hap.2⟩, by omega, by simp, below_off hb ho6 (fun k hk => hk.elim (hF k) (fun h => (hG k h).1))⟩
/-- a disk on which an append may have been cut -/
def CutS (w1 : World) (dg : Nat) (W : World) (d6 : DM) : Prop :=
  ∃ F6, Dk W F6 dg d6 ∧ (∀ k, F6 k → w1.heap.size ≤ k) ∧ d6.pend.length ≤ 900000 ∧ ∀ keep, CalmS (d6.crashM keep) 22 ∧ (d6.crashM keep).pend = [] ∧ ∃ t fs, Shows (d6.crashM keep).sec t 10 fs
theorem append_cut {w1 : World} {dg g t : Nat} {fs : List (List UInt8)} {W : World} {F G : Nat → Prop} {d : DM} {m0 : Int} (hd : Dk W F dg (d.armM m0).1) (hlog : Log W G g dg 10 t fs false) (hF : ∀ k, F k → w1.heap.size ≤ k) (hG : ∀ k, G k → w1.heap.size ≤ k) (hl : Lies d t 10 fs) (hlen : fs.length ≤ 42) (hb : Below w1.heap.size w1 W)
    (A2 : Option Addr) (m c2 : Nat) (b : List UInt8) (hby : By W A2 m c2 b) (hbl : b.length = m) (hm : m ≤ 400) :
    Calls Try.prog 16 #[.pointer (some ⟨g, 0, none⟩), .slice A2 m c2] W fun e W' => (∃ v, e = .returned (.int .i64 v)) ∧ (∃ d6, CutS w1 dg W' d6) ∧ Below w1.heap.size w1 W' := by
  have hus := hl.shows.used
  have hpd : (d.armM m0).1.pend = [] := by
    unfold DM.armM
    split <;> exact hl.pend
  by_cases hroom : sects m ≤ 10 - usedM fs
  · refine (append_ok g dg 10 t fs A2 m c2 b _ F G W hlog hd hby.sl (by omega) (by omega) hl.shows.tm hus hroom (by omega) (by rw [hpd]; exact Nat.zero_le _)).mono ?_
    rintro e W' ⟨rfl, F6, G6, hd6, hx6, hy6, ho6, hl6⟩
    refine ⟨⟨_, rfl⟩, ⟨_, F6, hd6, ext_new hb.size hx6 hF, ?_, fun keep => ?_⟩, below_off hb ho6 (fun k hk => hk.elim (hF k) (hG k))⟩
    · have h1 := lay_pend (pairsM t fs.length b) ((2 + t % 2 * 10 + usedM fs : Nat) : Int) (d.armM m0).1
      have h2 : (pairsM t fs.length b).length = sects b.length := by simp [pairsM]
      rw [hpd, h2] at h1
      have h3 := sects_most b.length (by omega)
      simp only [List.length_nil] at h1
      omega
    · obtain ⟨c1, c2, c3⟩ := append_torn hl m0 keep (b := b) (by omega) (by rw [hbl]; exact hroom) _ rfl
      exact ⟨c1, c2, c3.elim (fun h => ⟨t, fs, h⟩) (fun h => ⟨t, _, h⟩)⟩
  · refine (append_full g dg 10 t fs A2 m c2 G W hlog (by omega) (by omega) hus (by omega)).mono ?_
    rintro e W' ⟨rfl, hb6⟩
    refine ⟨⟨_, rfl⟩, ⟨_, F, hd.below hb6, hF, by rw [hpd]; exact Nat.zero_le _, fun keep => ?_⟩, hb.trans (hb6.mono hb.size)⟩
    obtain ⟨c1, c2, c3⟩ := crash_lies hl m0 keep _ rfl
    exact ⟨c1, c2, t, fs, c3⟩
theorem own_vs {w : World} {base n : Nat} {t : TypeId} {v : Value} {vs : List Value} (h : w.ownsRow base t 1 v n vs) : ∃ A c, v = .slice A n c ∧ vs.length = n ∧ (A = none → c = 0) ∧ Vs w w.heap.size A vs ∧ (∀ b o s, A = some ⟨b, o, s⟩ → base ≤ b) := by
  have hn : vs.length = n := by have := h.1; omega
  rcases h.2 with ⟨rfl, rfl⟩ | ⟨g, cap, cur, rfl, hb, hg, hnc, hcm, hs, ht⟩
  · obtain rfl : vs = [] := List.eq_nil_of_length_eq_zero hn
    exact ⟨none, 0, rfl, rfl, fun _ => rfl, (fun hp => absurd hp (by simp)), fun b o s e => by cases e⟩
  · refine ⟨_, cap, rfl, hn, (fun hh => by cases hh), (fun hp => ⟨g, 0, rfl, (Array.getElem?_eq_some_iff.1 hg).1, fun j u hu => ?_⟩), fun b o s e => by cases e; exact hb⟩
    have := World.ownsRow.cells h (g := g) rfl j u hu
    rwa [Addr.add_lit] at this
theorem left_lg {g dg area t : Nat} {fs : List (List UInt8)} {br : Bool} {G : Nat → Prop} {w : World} (h : Log w G g dg area t fs br) (ha : area ≤ 1000) (hu : usedM fs ≤ area) :
    Calls Try.prog 24 #[.pointer (some ⟨g, 0, none⟩)] w fun e w' => e = .returned (.int .i64 ((area - usedM fs : Nat) : Int)) ∧ w' = w.drew := by
  obtain ⟨A, c, xs, hrow, _⟩ := h
  exact left_any g dg area t fs.length c (usedM fs) A br w hrow ha hu
theorem turn_lg {g dg area t : Nat} {fs : List (List UInt8)} {br : Bool} {G : Nat → Prop} {w : World} (h : Log w G g dg area t fs br) :
    Calls Try.prog 25 #[.pointer (some ⟨g, 0, none⟩)] w fun e w' => e = .returned (.int .u32 (t : Int)) ∧ w = w' := by
  obtain ⟨A, c, xs, hrow, _⟩ := h
  exact turn_log g dg area t fs.length c (usedM fs) A br w hrow
theorem arm_zero {d : DM} {n : Nat} (h : CalmS d n) : (d.armM 0).1.dead = false ∧ (d.armM 0).1.fs = false ∧ (d.armM 0).1.pend = d.pend ∧ (d.armM 0).1.sec = d.sec := by
  unfold DM.armM
  rw [if_neg (by rw [h.1.1]; simp)]
  exact ⟨h.1.1, h.1.2.2, rfl, rfl⟩
theorem mod25 (k : Int) : ∃ r : Nat, r < 25 ∧ (IntKind.u64.wrap k).tmod 25 = (r : Int) := by
  have h0 : 0 ≤ IntKind.u64.wrap k := by simp only [IntKind.wrap_u64]; omega
  refine ⟨((IntKind.u64.wrap k).tmod 25).toNat, ?_, ?_⟩ <;> (rw [Int.tmod_eq_emod_of_nonneg h0]; omega)
end Go.Proofs.Yteemdjamgbbjhaa.Wl

/-
  An append and a checkpoint that the power may cut: what is told, and what stands behind the cut.
-/
namespace Go.Proofs.Yteemdjamgbbjhaa.Wl
set_option maxRecDepth 100000
open Go.RowKit Go.Shelf Go.Proofs.Yteemdjamgbbjhaa.Wd Go.Proofs.Yteemdjamgbbjhaa.Dsk Go.Proofs.Yteemdjamgbbjhaa.Oct Go.Proofs.Yteemdjamgbbjhaa.Sum Go.Proofs.Yteemdjamgbbjhaa.Beq

/-- a disk on which the power may have cut what turned fs of turn t to fs2 of turn t2, and what was told -/
def CutK (w1 : World) (dg area : Nat) (W : World) (v : Int) (t : Nat) (fs : List (List UInt8)) (t2 : Nat) (fs2 : List (List UInt8)) : Prop :=
  ∃ d6 F6, Dk W F6 dg d6 ∧ (∀ k, F6 k → w1.heap.size ≤ k) ∧ d6.pend.length ≤ 900000 ∧ ∀ keep, CalmS (d6.crashM keep) (2 + 2 * area) ∧ (d6.crashM keep).pend = [] ∧
    ((v ≠ 0 ∧ Shows (d6.crashM keep).sec t area fs) ∨ ((v = 0 ∨ v = 9) ∧ Shows (d6.crashM keep).sec t2 area fs2))
theorem append_cutk {w1 : World} {dg g area t : Nat} {fs : List (List UInt8)} {W : World} {F G : Nat → Prop} {d : DM} {m0 : Int} (hd : Dk W F dg (d.armM m0).1) (hlog : Log W G g dg area t fs false) (hF : ∀ k, F k → w1.heap.size ≤ k) (hG : ∀ k, G k → w1.heap.size ≤ k) (hl : Lies d t area fs) (hlen : fs.length ≤ 42) (hb : Below w1.heap.size w1 W)
    (A2 : Option Addr) (m c2 : Nat) (b : List UInt8) (hby : By W A2 m c2 b) (hbl : b.length = m) (hm : m ≤ 400) :
    Calls Try.prog 16 #[.pointer (some ⟨g, 0, none⟩), .slice A2 m c2] W fun e W' => ∃ v, e = .returned (.int .i64 v) ∧ CutK w1 dg area W' v t fs t (fs ++ [b]) ∧ Below w1.heap.size w1 W' := by
  have hus := hl.shows.used
  have h4 := hl.shows.a4
  have ham := hl.shows.am
  have hpd : (d.armM m0).1.pend = [] := by
    unfold DM.armM
    split <;> exact hl.pend
  by_cases hroom : sects m ≤ area - usedM fs
  · refine (append_ok g dg area t fs A2 m c2 b _ F G W hlog hd hby.sl (by omega) (by omega) hl.shows.tm hus hroom (by omega) (by rw [hpd]; exact Nat.zero_le _)).mono ?_
    rintro e W' ⟨rfl, F6, G6, hd6, hx6, hy6, ho6, hl6⟩
    obtain ⟨q1, q2⟩ := append_told hl m0 (b := b) (by omega) (by rw [hbl]; exact hroom) _ rfl
    refine ⟨_, rfl, ⟨_, F6, hd6, ext_new hb.size hx6 hF, ?_, fun keep => ?_⟩, below_off hb ho6 (fun k hk => hk.elim (hF k) (hG k))⟩
    · have h1 := lay_pend (pairsM t fs.length b) ((2 + t % 2 * area + usedM fs : Nat) : Int) (d.armM m0).1
      have h2 : (pairsM t fs.length b).length = sects b.length := by simp [pairsM]
      rw [hpd, h2] at h1
      have h3 := sects_most b.length (by omega)
      simp only [List.length_nil] at h1
      omega
    · obtain ⟨c1, c2, c3⟩ := q2 keep
      refine ⟨c1, c2, ?_⟩
      rcases c3 with ⟨e9, c3⟩ | c3
      · exact .inl ⟨by rw [e9]; decide, c3⟩
      · exact .inr ⟨q1, c3⟩
  · refine (append_full g dg area t fs A2 m c2 G W hlog (by omega) (by omega) hus (by omega)).mono ?_
    rintro e W' ⟨rfl, hb6⟩
    refine ⟨_, rfl, ⟨_, F, hd.below hb6, hF, by rw [hpd]; exact Nat.zero_le _, fun keep => ?_⟩, hb.trans (hb6.mono hb.size)⟩
    obtain ⟨c1, c2, c3⟩ := crash_lies hl m0 keep _ rfl
    exact ⟨c1, c2, .inl ⟨by decide, c3⟩⟩
theorem begin_pend (t area : Nat) (b : List UInt8) (d : DM) : (beginM t area b d).1.pend.length ≤ d.pend.length + sects b.length + 1 := by
  have h2 : (pairsM t 0 b).length = sects b.length := by simp [pairsM]
  have h1 := lay_pend (pairsM t 0 b) ((2 + t % 2 * area : Nat) : Int) d
  rw [h2] at h1
  unfold beginM
  split
  · omega
  · have h3 := lay_pend [((0 : Int), headB t area)] ((t % 2 : Nat) : Int) (layM (pairsM t 0 b) ((2 + t % 2 * area : Nat) : Int) d).1
    simp only [List.length_cons, List.length_nil] at h3
    omega
theorem check_cutk {w1 : World} {dg g area t : Nat} {fs : List (List UInt8)} {W : World} {F G : Nat → Prop} {d : DM} {m0 : Int} (hd : Dk W F dg (d.armM m0).1) (hlog : Log W G g dg area t fs false) (hF : ∀ k, F k → w1.heap.size ≤ k) (hG : ∀ k, G k → w1.heap.size ≤ k) (hl : Lies d t area fs) (ht : t + 1 < 4294967295) (hb : Below w1.heap.size w1 W)
    (A2 : Option Addr) (m c2 : Nat) (b : List UInt8) (hby : By W A2 m c2 b) (hbl : b.length = m) (hm : m ≤ 400) :
    Calls Try.prog 17 #[.pointer (some ⟨g, 0, none⟩), .slice A2 m c2] W fun e W' => ∃ v, e = .returned (.int .i64 v) ∧ CutK w1 dg area W' v t fs (t + 1) [b] ∧ Below w1.heap.size w1 W' := by
  have h4 := hl.shows.a4
  have ham := hl.shows.am
  have hpd : (d.armM m0).1.pend = [] := by
    unfold DM.armM
    split <;> exact hl.pend
  by_cases hroom : sects m ≤ area
  · refine (check_ok g dg area t fs A2 m c2 b _ F G W hlog hd hby.sl (by omega) (by omega) (by omega) hroom (by rw [hpd]; exact Nat.zero_le _)).mono ?_
    rintro e W' ⟨rfl, F6, G6, hd6, hx6, hy6, ho6, hl6⟩
    obtain ⟨q1, q2⟩ := begin_told (b := b) hl (by omega) (by omega) (by rw [hbl]; exact hroom) m0 _ rfl
    refine ⟨_, rfl, ⟨_, F6, hd6, ext_new hb.size hx6 hF, ?_, fun keep => ?_⟩, below_off hb ho6 (fun k hk => hk.elim (hF k) (hG k))⟩
    · have h1 := begin_pend (t + 1) area b (d.armM m0).1
      rw [hpd] at h1
      have h3 := sects_most b.length (by omega)
      simp only [List.length_nil] at h1
      omega
    · obtain ⟨c1, c2, c3⟩ := q2 keep
      refine ⟨c1, c2, ?_⟩
      rcases c3 with ⟨e9, c3⟩ | c3
      · exact .inl ⟨by rw [e9]; decide, c3⟩
      · exact .inr ⟨q1, c3⟩
  · refine (check_full g dg area t fs A2 m c2 G W hlog (by omega) (by omega)).mono ?_
    rintro e W' ⟨rfl, hb6⟩
    refine ⟨_, rfl, ⟨_, F, hd.below hb6, hF, by rw [hpd]; exact Nat.zero_le _, fun keep => ?_⟩, hb.trans (hb6.mono hb.size)⟩
    obtain ⟨c1, c2, c3⟩ := crash_lies hl m0 keep _ rfl
    exact ⟨c1, c2, .inl ⟨by decide, c3⟩⟩
end Go.Proofs.Yteemdjamgbbjhaa.Wl

/-
  An Open on whose way the power may go, on the disk of the program.
-/
namespace Go.Proofs.Yteemdjamgbbjhaa.Wl
set_option maxRecDepth 100000
open Go.RowKit Go.Shelf Go.Proofs.Yteemdjamgbbjhaa.Wd Go.Proofs.Yteemdjamgbbjhaa.Dsk Go.Proofs.Yteemdjamgbbjhaa.Oct Go.Proofs.Yteemdjamgbbjhaa.Sum Go.Proofs.Yteemdjamgbbjhaa.Beq

theorem nfL_len (L : List (List UInt8)) (k : Nat) : (nfL L k).length ≤ k := by
  unfold nfL
  exact Nat.le_trans (List.length_filterMap_le _ _) (by simp)
theorem pre_ok {d : DM} {i : Int} {ch : Bool} (h : (d.pre i ch).2 = 0) : (d.pre i ch).1.dead = false := by
  unfold DM.pre at h ⊢
  split at h
  · cases h
  · rename_i h0
    have hd : d.dead = false := by simpa using h0
    rw [if_neg h0]
    split at h
    · cases h
    · rename_i h1
      rw [if_neg h1]
      split at h
      · cases h
      · rename_i h2
        rw [if_neg h2]
        split at h
        · cases h
        · rename_i h3
          rw [if_neg h3]
          dsimp only at h ⊢
          split at h
          · cases h
          · rename_i h4
            rw [if_neg h4]
            exact hd
theorem layM_live {L : List (Int × List UInt8)} {f : Int} {d : DM} (h : (layM L f d).2 = 0) : (layM L f d).1.dead = false := by
  unfold layM at h ⊢
  split at h
  · rename_i h0; exact (h0 h).elim
  · rename_i h0
    rw [if_neg h0]
    unfold DM.syncM at h ⊢
    split at h
    · rename_i h1
      rw [if_pos h1]
      exact pre_ok h1
    · rename_i h1; exact (h1 h).elim
/-- what an Open leaves: how much is pending, and that the disk lives where it was told OK -/
theorem open_left {d : DM} {t area : Nat} {fs : List (List UInt8)} (h1 : d.dead = false) (h2 : d.fs = false) (hp : d.pend = []) (h : Shows d.sec t area fs) :
    (openM d).1.pend.length ≤ 1000 ∧ (openM d).1.fs = false ∧ ((openM d).2.1 = 0 → (openM d).1.dead = false) ∧ ((openM d).2.1 = 0 ∨ (openM d).2.1 = 9) := by
  obtain ⟨o, ho⟩ := open_shape h1 h2 h
  have hu := h.used
  have hlen := h.len
  have ham := h.am
  have hta := area_in (t := t) (area := area) trivial
  rw [ho]
  dsimp only
  have hRl : ((areaS d.sec t area).drop (usedM fs)).length = area - usedM fs := by rw [List.length_drop, areaS_len]
  obtain ⟨R, hRe⟩ : ∃ R, (areaS d.sec t area).drop (usedM fs) = R := ⟨_, rfl⟩
  rw [hRe] at hRl ⊢
  unfold sweepM
  split
  · exact ⟨by show d.pend.length ≤ 1000; rw [hp]; exact Nat.zero_le _, h2, fun _ => h1, .inl rfl⟩
  · have hin : ∀ p ∈ nfL R R.length, 0 ≤ ((2 + t % 2 * area + usedM fs : Nat) : Int) + p.1 ∧ ((2 + t % 2 * area + usedM fs : Nat) : Int) + p.1 < ((2 + 2 * area : Nat) : Int) := fun p hpm => by
      obtain ⟨i, hi, rfl, _⟩ := nfL_mem hpm
      rw [hRl] at hi
      dsimp only
      omega
    obtain ⟨e1, e2, _⟩ := layM_err (d := ({ d with ops := o } : DM)) h2 hlen (by omega) hin
    refine ⟨?_, e2, fun he => layM_live he, e1⟩
    have h3 := lay_pend (nfL R R.length) ((2 + t % 2 * area + usedM fs : Nat) : Int) ({ d with ops := o } : DM)
    have h4 := nfL_len R R.length
    have h5 : ({ d with ops := o } : DM).pend.length = 0 := by show d.pend.length = 0; rw [hp]; rfl
    omega
/-- what stands in the world behind an Open that the power may cut -/
def OpK (w1 : World) (dg area : Nat) (F : Nat → Prop) (W W' : World) (p : Option Addr) (v : Int) (t : Nat) (fs : List (List UInt8)) : Prop :=
  ∃ d6 F6, Dk W' F6 dg d6 ∧ (∀ k, F6 k → w1.heap.size ≤ k) ∧ d6.pend.length ≤ 900000 ∧ Below w1.heap.size w1 W' ∧ Ext F F6 W W' ∧ Off F W W' ∧
    (v ≠ 0 → p = none) ∧ (v = 0 → ∃ g, p = some ⟨g, 0, none⟩ ∧ Log W' (fun k => W.heap.size ≤ k) g dg area t fs false ∧ d6.dead = false ∧ d6.fs = false ∧ d6.pend = [] ∧ Shows d6.sec t area fs ∧ Clean d6.sec t area fs) ∧
    ∀ keep, CalmS (d6.crashM keep) (2 + 2 * area) ∧ (d6.crashM keep).pend = [] ∧ Shows (d6.crashM keep).sec t area fs
theorem open_k {w1 : World} {dg area t : Nat} {fs : List (List UInt8)} {W : World} {F : Nat → Prop} {d : DM} (hd : Dk W F dg d) (h1 : d.dead = false) (h2 : d.fs = false) (hp : d.pend = []) (h : Shows d.sec t area fs) (hF : ∀ k, F k → w1.heap.size ≤ k) (hb : Below w1.heap.size w1 W) :
    Calls Try.prog 20 #[.pointer (some ⟨dg, 0, none⟩)] W fun e W' => ∃ p v, e = .returned (.tuple #[.pointer p, .int .i64 v]) ∧ OpK w1 dg area F W W' p v t fs := by
  have h64 : ∀ j, j < 2 + 2 * area → (d.sec.getD j []).length = 64 := fun j hj => by
    obtain ⟨⟨gs, A, c, hda⟩, _⟩ := hd.1
    have hl : j < d.sec.length := by rw [h.len]; exact hj
    rw [← getD_lt _ _ [] hl]
    exact hda.good.sec _ (List.getElem_mem hl)
  obtain ⟨d', e0, ho, hok, hcr⟩ := open_torn h1 h2 hp h h64
  obtain ⟨l1, l2, l3, l4⟩ := open_left h1 h2 hp h
  rw [ho] at l1 l2 l3 l4
  dsimp only at l1 l2 l3 l4
  refine (open_any dg d F W hd (by rw [hp]; exact Nat.zero_le _)).mono ?_
  intro e W' hop
  rw [ho] at hop
  obtain ⟨p, F', rfl, hd6, hx, hof, hn, hg⟩ := hop
  dsimp only at hn hg hd6
  refine ⟨p, e0, rfl, d', F', hd6, ext_new hb.size hx hF, by omega, below_off hb hof hF, hx, hof, hn, fun he => ?_, hcr⟩
  obtain ⟨g, rfl, hlog, _⟩ := hg he
  obtain ⟨q1, q2, q3⟩ := hok he
  exact ⟨g, rfl, hlog, l3 he, l2, q1, q2, q3⟩
end Go.Proofs.Yteemdjamgbbjhaa.Wl

/-
  A disk is opened again and again while the power goes: what it comes to.
-/
namespace Go.Proofs.Yteemdjamgbbjhaa.Wl
set_option maxRecDepth 100000
open Go.RowKit Go.Shelf Go.Proofs.Yteemdjamgbbjhaa.Wd Go.Proofs.Yteemdjamgbbjhaa.Dsk Go.Proofs.Yteemdjamgbbjhaa.Oct Go.Proofs.Yteemdjamgbbjhaa.Sum Go.Proofs.Yteemdjamgbbjhaa.Beq

theorem mod12 (k : Int) : ∃ r : Nat, r < 12 ∧ (IntKind.u64.wrap k).tmod 12 = (r : Int) := by
  have h0 : 0 ≤ IntKind.u64.wrap k := by simp only [IntKind.wrap_u64]; omega
  refine ⟨((IntKind.u64.wrap k).tmod 12).toNat, ?_, ?_⟩ <;> (rw [Int.tmod_eq_emod_of_nonneg h0]; omega)
/-- a disk on which nothing fails, and a log on it -/
def OKst (w1 : World) (dg area t : Nat) (fs : List (List UInt8)) (wr : World) : Prop :=
  ∃ F d, Dk wr F dg d ∧ CalmS d (2 + 2 * area) ∧ d.pend = [] ∧ Shows d.sec t area fs ∧ (∀ k, F k → w1.heap.size ≤ k) ∧ Below w1.heap.size w1 wr
theorem OKst.below {w1 wr wx : World} {dg area t : Nat} {fs : List (List UInt8)} (h : OKst w1 dg area t fs wr) (hb : Below wr.heap.size wr wx) : OKst w1 dg area t fs wx := by
  obtain ⟨F, d, h1, h2, h3, h4, h5, h6⟩ := h
  exact ⟨F, d, h1.below hb, h2, h3, h4, h5, h6.trans (hb.mono h6.size)⟩
/-- a log that was opened -/
def Opened (w1 : World) (dg area t : Nat) (fs : List (List UInt8)) (p : Option Addr) (W : World) : Prop :=
  ∃ g F G d, p = some ⟨g, 0, none⟩ ∧ Dk W F dg d ∧ Log W G g dg area t fs false ∧ CalmS d (2 + 2 * area) ∧ d.pend = [] ∧ Shows d.sec t area fs ∧ Clean d.sec t area fs ∧ (∀ k, F k → w1.heap.size ≤ k) ∧ (∀ k, G k → w1.heap.size ≤ k) ∧ Below w1.heap.size w1 W
theorem open_kc {w1 : World} {dg area t : Nat} {fs : List (List UInt8)} {W : World} (h : OKst w1 dg area t fs W) :
    Calls Try.prog 20 #[.pointer (some ⟨dg, 0, none⟩)] W fun e W' => ∃ p, e = .returned (.tuple #[.pointer p, .int .i64 0]) ∧ Opened w1 dg area t fs p W' := by
  obtain ⟨F, d, hd, hc, hp, hsh, hF, hb⟩ := h
  obtain ⟨d8, he8, hcs8, hp8, hsh8, hcl8⟩ := open_clean hc hp hsh
  refine (open_any dg d F W hd (by rw [hp]; exact Nat.zero_le _)).mono ?_
  intro e W' hop
  rw [he8] at hop
  obtain ⟨p, F8, rfl, hd8, hx8, ho8, _, hg8⟩ := hop
  obtain ⟨g8, rfl, hl8, _⟩ := hg8 rfl
  exact ⟨_, rfl, g8, F8, _, d8, rfl, hd8, hl8, hcs8, hp8, hsh8, hcl8, ext_new hb.size hx8 hF, fun k hk => Nat.le_trans hb.size hk, below_off hb ho8 hF⟩

set_option maxHeartbeats 8000000 in
theorem opened_any {w1 : World} {dg area t : Nat} {fs : List (List UInt8)} (w : World) (hst : OKst w1 dg area t fs w) (os : List OM) (A : Option Addr) (n c : Nat) (hn : os.length = n) (hm : n ≤ 140737488351232) (hO : Opl w1 w1.heap.size A os) (hok : ∀ o ∈ os, OpOk w1 o) :
    Calls Try.prog 38 #[.pointer (some ⟨dg, 0, none⟩), .slice A n c] w fun e w' => ∃ p, e = .returned (.pointer p) ∧ Opened w1 dg area t fs p w' := by
  have HN := Lib.hid hn
  have HO := Lib.hid hO
  have HOK := Lib.hid hok
  have HT0 := Lib.hid hst
  have HOP : Hid (∀ W, OKst w1 dg area t fs W → _) := Lib.hid fun W hW => open_kc hW
  clear hn hO hok hst
  go_enter Try.func38, Try.ntmps38
  go_wp2_with fail
  go_loopw [13] (fun i wr => ∃ k : Nat, k ≤ n ∧ i = .int .i64 (k : Int) ∧ Hid (OKst w1 dg area t fs wr)) (fun i _ => n - (intOf i).toNat)
  case atStart => exact ⟨0, by omega, rfl, HT0⟩
  case round =>
    clear HT0
    obtain ⟨k, hk, rfl, HT⟩ := hrel
    by_cases hlt : k < n
    case neg =>
      have h1 : ¬ (k : Int) < (n : Int) := by omega
      obtain rfl : k = n := by omega
      go_wp2_with fail
      refine (HOP.out _ HT.out).mono ?_
      rintro e W9 ⟨p, rfl, hp⟩
      have HP := Lib.hid hp
      clear hp HT
      go_wp2
      go_ret
      exact ⟨_, rfl, HP.out⟩
    have h1 : (k : Int) < (n : Int) := by omega
    obtain ⟨x, hx⟩ : ∃ x, os[k]? = some x := ⟨_, List.getElem?_eq_getElem (by rw [HN.out]; exact hlt)⟩
    obtain ⟨b, o, rfl, hblt, hc⟩ := HO.out (by rw [HN.out]; omega)
    have HX := Lib.hid (HOK.out x (List.mem_of_getElem? hx))
    obtain ⟨kc, ac, xc, Ac, nc, cc, lc⟩ := x
    obtain ⟨F, d, hd, hcs, hpe, hsh, hF, hb⟩ := HT.out
    have hcl := fun j v hj => (hb.cell (p := ⟨b, o + k * 4 + j, none⟩) hblt).trans (hc k _ hx j v hj)
    have c0 : wr.cell? ⟨b, o + k * 4, none⟩ = some (.int .i64 kc) := hcl 0 _ rfl
    have c1 : wr.cell? ⟨b, o + k * 4 + 1, none⟩ = some (.int .i64 ac) := hcl 1 _ rfl
    have c2 : wr.cell? ⟨b, o + k * 4 + 2, none⟩ = some (.int .u8 (xc.toNat : Int)) := hcl 2 _ rfl
    have c3 : wr.cell? ⟨b, o + k * 4 + 3, none⟩ = some (.slice Ac nc cc) := hcl 3 _ rfl
    clear hcl hx hc
    have HBA : Hid (Below wr.heap.size wr (wr.alloc (.cells #[.int .i64 kc, .int .i64 ac, .int .u8 (xc.toNat : Int), .slice Ac nc cc] 55))) := Lib.hid ((Below.refl _ _).alloc (Nat.le_refl _) _)
    by_cases hk4 : k = 4
    · have hk5 : (k : Int) = 4 := by omega
      have HT5 := Lib.hid (HT.out.below HBA.out)
      subst hk4
      clear hd hcs hpe hsh hF hb HX HT HBA
      go_wp2_with fail
      refine (HOP.out _ HT5.out).mono ?_
      rintro e W9 ⟨p, rfl, hp⟩
      have HP := Lib.hid hp
      clear hp HT5
      go_wp2
      go_ret
      exact ⟨_, rfl, HP.out⟩
    have hk5 : ¬ (k : Int) = 4 := by omega
    have RY := Lib.hid (Row.new wr 55 [.int .i64 kc, .int .i64 ac, .int .u8 (xc.toNat : Int), .slice Ac nc cc])
    have hFl : ∀ k, F k → k < wr.heap.size := hd.1.2
    have HD := Lib.hid (hd.below HBA.out)
    have HB := Lib.hid (hb.trans (HBA.out.mono hb.size))
    have HF := Lib.hid hF
    have HFL := Lib.hid hFl
    have HCS := Lib.hid hcs
    have HPE := Lib.hid hpe
    have HSH := Lib.hid hsh
    obtain ⟨mm, hmm, hmod⟩ := mod12 ac
    have hmw : IntKind.i64.wrap (mm : Int) = (mm : Int) := by rw [IntKind.wrap_i64]; omega
    clear hd hcs hpe hsh hF hb HT hFl HBA
    go_wp2_with fail
    clear c0 c1 c2 c3
    generalize hW : wr.alloc (.cells #[.int .i64 kc, .int .i64 ac, .int .u8 (xc.toNat : Int), .slice Ac nc cc] 55) = W at RY HD HB ⊢
    have hWs : W.heap.size = wr.heap.size + 1 := by rw [← hW]; simp
    clear hW
    refine (arm_any dg d F (mm : Int) W HD.out.1 (by omega)).mono ?_
    rintro e W2 ⟨rfl, F2', hd2', hx2, ho2⟩
    obtain ⟨F2, hd2, hff⟩ := dk_min hd2'
    have HD2 := Lib.hid hd2
    have HF2 : Hid (∀ k, F2 k → w1.heap.size ≤ k) := Lib.hid fun k hk => ext_new HB.out.size hx2 HF.out k (hff k hk)
    have HN2 : Hid (¬ F2 wr.heap.size) := Lib.hid (fun hh => by
      rcases hx2 _ (hff _ hh) with h | h
      · have := HFL.out _ h; omega
      · omega)
    have HB2 := Lib.hid (below_off HB.out ho2 HF.out)
    have HR2 : Hid (Row W2 wr.heap.size 55 [.int .i64 kc, .int .i64 ac, .int .u8 (xc.toNat : Int), .slice Ac nc cc]) := Lib.hid ((ho2.block _ RY.out.lt (fun h => by have := HFL.out _ h; omega)).trans RY.out)
    have hsz2 : w1.heap.size ≤ W2.heap.size := HB2.out.size
    obtain ⟨ea, ep, ef⟩ := arm_same d (mm : Int)
    have hde : (d.armM (mm : Int)).1.dead = false := by
      unfold DM.armM
      rw [if_neg (by rw [HCS.out.1.1]; simp)]
      exact HCS.out.1.1
    obtain ⟨d2, hd2e⟩ : ∃ d2, (d.armM (mm : Int)).1 = d2 := ⟨_, rfl⟩
    rw [hd2e] at HD2 ea ep ef hde
    have HOO := Lib.hid (open_k (w1 := w1) HD2.out hde (by rw [ef]; exact HCS.out.1.2.2) (by rw [ep]; exact HPE.out) (by rw [ea]; exact HSH.out) HF2.out HB2.out)
    clear hd2' hx2 ho2 hd2 hff HD HB HF HFL HCS HPE HSH RY ea ep ef hde hd2e hmod hmw
    go_wp2_with fail
    refine HOO.out.mono ?_
    rintro e W3 ⟨p, v, rfl, d6, F6, hd6, hf6, hp6, hb6, hx6, ho6, hn6, hg6, hc6⟩
    have HR3 : Hid (Row W3 wr.heap.size 55 [.int .i64 kc, .int .i64 ac, .int .u8 (xc.toNat : Int), .slice Ac nc cc]) := Lib.hid ((ho6.block _ HR2.out.lt HN2.out).trans HR2.out)
    have HD6 := Lib.hid hd6
    have HF6 := Lib.hid hf6
    have HP6 := Lib.hid hp6
    have HB6 := Lib.hid hb6
    have HC6 := Lib.hid hc6
    clear HOO HR2 HN2 HB2 HD2 HF2 hd6 hf6 hp6 hb6 hx6 ho6 hn6 hc6
    by_cases hv : v = 0
    · subst hv
      obtain ⟨g8, rfl, hl8, hde8, hfs8, hpe8, hsh8, hcl8⟩ := hg6 rfl
      have HL8 := Lib.hid hl8
      have H8 := Lib.hid (And.intro hde8 (And.intro hfs8 (And.intro hpe8 (And.intro hsh8 hcl8))))
      clear hg6 hl8 hde8 hfs8 hpe8 hsh8 hcl8 HC6
      go_wp2_with fail
      refine (arm_any dg d6 F6 (-1) W3 HD6.out.1 (by omega)).mono ?_
      rintro e W4 ⟨rfl, F7', hd7', hx7, ho7⟩
      obtain ⟨F7, hd7, hf7⟩ := dk_min hd7'
      have hq : (d6.armM (-1)).1.dead = false ∧ (d6.armM (-1)).1.ps = false ∧ (d6.armM (-1)).1.fs = false ∧ (d6.armM (-1)).1.sec = d6.sec ∧ (d6.armM (-1)).1.pend = d6.pend := by
        unfold DM.armM
        rw [if_neg (by rw [H8.out.1]; simp)]
        exact ⟨H8.out.1, rfl, H8.out.2.1, rfl, rfl⟩
      obtain ⟨d9, hd9⟩ : ∃ d9, (d6.armM (-1)).1 = d9 := ⟨_, rfl⟩
      rw [hd9] at hq hd7
      have HFIN : Hid (Opened w1 dg area t fs (some ⟨g8, 0, none⟩) W4) := Lib.hid ⟨g8, F7, _, d9, rfl, hd7, log_off HL8.out HD6.out ho7, ⟨⟨hq.1, hq.2.1, hq.2.2.1⟩, by rw [hq.2.2.2.1]; exact H8.out.2.2.2.1.len⟩, by rw [hq.2.2.2.2]; exact H8.out.2.2.1, by rw [hq.2.2.2.1]; exact H8.out.2.2.2.1, by rw [hq.2.2.2.1]; exact H8.out.2.2.2.2, fun k hk => ext_new HB6.out.size hx7 HF6.out k (hf7 k hk), fun k hk => Nat.le_trans hsz2 hk, below_off HB6.out ho7 HF6.out⟩
      clear hd7' hx7 ho7 hd7 hf7 hq hd9 HL8 H8 HD6 HF6 HB6 HP6 HR3
      go_wp2
      go_ret
      exact ⟨_, rfl, HFIN.out⟩
    · clear hg6
      have c3 : (W3.alloc (.cells #[] 4)).cell? ⟨wr.heap.size, 3, none⟩ = some (.slice Ac nc cc) := (HR3.out.alloc _).cell 3
      obtain ⟨i0, hi0, hz0, hz1, hz2⟩ := info_parts info4
      have HI := Lib.hid hi0
      have HZ0 := Lib.hid hz0
      have HZ1 := Lib.hid hz1
      have HZ2 := Lib.hid hz2
      have OWN0 : Hid ((W3.alloc (.cells #[] 4)).ownsRow W3.heap.size 4 1 (.slice (some ⟨W3.heap.size, 0, none⟩) 0 0) 0 []) := Lib.hid (World.ownsRow_made W3 #[] 0 (Nat.le_refl _) (Nat.zero_le _) rfl)
      have HVS : Hid (Vs (W3.alloc (.cells #[] 4)) w1.heap.size Ac (bools lc)) := Lib.hid (HX.out.vs.below (HB6.out.alloc HB6.out.size _))
      have HLC : Hid ((bools lc).length = nc) := Lib.hid (by rw [bools, List.length_map]; exact HX.out.len)
      have HAC := Lib.hid HX.out.nil
      have hnc2 : nc ≤ 140737488351232 := HX.out.most
      clear hi0 hz0 hz1 hz2
      go_wp2_with (first
        | (with_reducible refine wpList_append_vs (o := ⟨some 41, _, _, _, _, _⟩) ?_ (.tmp 38) (.tmp 40) 53 ?_ W3.heap.size 4 i0 (.bool false) Try.underlying53 HI.out HZ0.out HZ1.out HZ2.out ?_ (.slice (some ⟨W3.heap.size, 0, none⟩) 0 0) 0 [] ?_ OWN0.out Ac nc cc (bools lc) ?_ HLC.out w1.heap.size HVS.out bools_one HAC.out ?_ ?_ ?_))
      all_goals try (first | rfl | omega | (simp; done))
      intro v' W5 hown5 hg5
      have hown6 : W5.ownsRow W3.heap.size 4 1 v' nc (bools lc) := by simpa using hown5
      obtain ⟨A', c', rfl, _, _, hv5, hba5⟩ := own_vs hown6
      have hb5 : Below W3.heap.size W3 W5 := ((Below.refl _ _).alloc (Nat.le_refl _) _).grown hg5 (by simp) (fun k e => Nat.le_of_eq (Option.some.inj e))
      have HV5 := Lib.hid hv5
      have HFA : Hid (∀ b o s, A' = some ⟨b, o, s⟩ → ¬ F6 b) := Lib.hid fun b o s e hf => by have := hba5 b o s e; have := HD6.out.1.2 b hf; omega
      have HD65 := Lib.hid (HD6.out.below hb5)
      have HB5 := Lib.hid (HB6.out.trans (hb5.mono HB6.out.size))
      clear hown5 hg5 hown6 hv5 hba5 hb5 HD6 HB6 HR3 c3 OWN0 HVS HI HZ0 HZ1 HZ2 HLC HAC
      go_wp2_with fail
      refine (crash_any dg d6 F6 A' nc c' lc W5 HD65.out.1 (by have := HP6.out; omega) HX.out.len HV5.out HFA.out).mono ?_
      rintro e W6 ⟨rfl, F7', hd7', hx7, ho7⟩
      obtain ⟨F7, hd7, hf7⟩ := dk_min hd7'
      obtain ⟨q1, q2, q3⟩ := HC6.out lc
      have HTN : Hid (OKst w1 dg area t fs W6) := Lib.hid ⟨F7, _, hd7, q1, q2, q3, fun k hk => ext_new HB5.out.size hx7 HF6.out k (hf7 k hk), below_off HB5.out ho7 HF6.out⟩
      clear hd7' hx7 ho7 hd7 hf7 q1 q2 q3 HD65 HB5 HFA HV5 HF6 HC6 HP6 HX
      go_wp2_with fail
      go_roundw
      case rel => exact ⟨k + 1, by omega, by go_num, HTN⟩
      case measure => simp [intOf]; omega
end Go.Proofs.Yteemdjamgbbjhaa.Wl

/-
  An append to a log that was opened; what a power cut leaves when nothing is pending.
-/
namespace Go.Proofs.Yteemdjamgbbjhaa.Wl
set_option maxRecDepth 100000
open Go.RowKit Go.Shelf Go.Proofs.Yteemdjamgbbjhaa.Wd Go.Proofs.Yteemdjamgbbjhaa.Dsk Go.Proofs.Yteemdjamgbbjhaa.Oct Go.Proofs.Yteemdjamgbbjhaa.Sum Go.Proofs.Yteemdjamgbbjhaa.Beq

theorem clean_old {sec : List (List UInt8)} {t area : Nat} {fs : List (List UInt8)} (h : Clean sec t area fs) : Rest sec t area fs := fun j h1 h2 => .inl (h j h1 h2)
theorem Opened.lies0 {d : DM} {t area : Nat} {fs : List (List UInt8)} (h1 : CalmS d (2 + 2 * area)) (h2 : d.pend = []) (h3 : Shows d.sec t area fs) (h4 : Clean d.sec t area fs) : Lies0 d t area fs := ⟨h1, h2, h3, clean_old h4⟩
theorem append_kc {w1 : World} {dg g area t : Nat} {fs : List (List UInt8)} {W : World} {F G : Nat → Prop} {d : DM} (hd : Dk W F dg d) (hlog : Log W G g dg area t fs false) (hl : Lies0 d t area fs) (hF : ∀ k, F k → w1.heap.size ≤ k) (hG : ∀ k, G k → w1.heap.size ≤ k) (hlen : fs.length ≤ 10000) (hb : Below w1.heap.size w1 W)
    (A2 : Option Addr) (m c2 : Nat) (b : List UInt8) (hby : By W A2 m c2 b) (hbl : b.length = m) (hm : m ≤ 400) :
    Calls Try.prog 16 #[.pointer (some ⟨g, 0, none⟩), .slice A2 m c2] W fun e W' => ∃ v, e = .returned (.int .i64 v) ∧ ∃ F' d' fs', Dk W' F' dg d' ∧ Lies0 d' t area fs' ∧ (v = 0 ∧ fs' = fs ++ [b] ∨ v ≠ 0 ∧ fs' = fs) ∧ (∀ k, F' k → w1.heap.size ≤ k) ∧ Below w1.heap.size w1 W' := by
  have hus := hl.shows.used
  have h4 := hl.shows.a4
  have ham := hl.shows.am
  by_cases hroom : sects m ≤ area - usedM fs
  · have hap := append_lies0 hl (b := b) (by omega) (by rw [hbl]; exact hroom)
    refine (append_ok g dg area t fs A2 m c2 b d F G W hlog hd hby.sl (by omega) (by omega) hl.shows.tm hus hroom hlen (by rw [hl.pend]; exact Nat.zero_le _)).mono ?_
    rintro e W' ⟨rfl, F6, G6, hd6, hx6, hy6, ho6, hl6⟩
    exact ⟨_, rfl, F6, _, _, hd6, hap.2, .inl ⟨hap.1, rfl⟩, ext_new hb.size hx6 hF, below_off hb ho6 (fun k hk => hk.elim (hF k) (hG k))⟩
  · refine (append_full g dg area t fs A2 m c2 G W hlog (by omega) (by omega) hus (by omega)).mono ?_
    rintro e W' ⟨rfl, hb6⟩
    exact ⟨_, rfl, F, d, fs, hd.below hb6, hl, .inr ⟨by decide, rfl⟩, hF, hb.trans (hb6.mono hb.size)⟩
/-- a power cut where nothing is pending, as the disk that it leaves is opened -/
theorem crash_kept {d : DM} {t area : Nat} {fs : List (List UInt8)} (h : Lies0 d t area fs) (keep : List Bool) : CalmS (d.crashM keep) (2 + 2 * area) ∧ (d.crashM keep).pend = [] ∧ Shows (d.crashM keep).sec t area fs := by
  have hs := crash_none h.pend keep
  exact ⟨⟨⟨rfl, rfl, rfl⟩, by rw [hs]; exact h.shows.len⟩, rfl, by rw [hs]; exact h.shows⟩
/-- an Open of what an Open left: nothing is written -/
theorem open_kk {w1 : World} {dg area t : Nat} {fs : List (List UInt8)} {W : World} {F : Nat → Prop} {d : DM} (hd : Dk W F dg d) (hc : CalmS d (2 + 2 * area)) (hp : d.pend = []) (h : Shows d.sec t area fs) (hcl : Clean d.sec t area fs) (hF : ∀ k, F k → w1.heap.size ≤ k) (hb : Below w1.heap.size w1 W) :
    Calls Try.prog 20 #[.pointer (some ⟨dg, 0, none⟩)] W fun e W' => ∃ g F' G d', e = .returned (.tuple #[.pointer (some ⟨g, 0, none⟩), .int .i64 0]) ∧ Dk W' F' dg d' ∧ Log W' G g dg area t fs false ∧ Lies0 d' t area fs ∧ (∀ k, F' k → w1.heap.size ≤ k) ∧ (∀ k, G k → w1.heap.size ≤ k) ∧ Below w1.heap.size w1 W' := by
  obtain ⟨o, ho⟩ := open_again hc.1.1 hc.1.2.2 hp h hcl
  refine (open_any dg d F W hd (by rw [hp]; exact Nat.zero_le _)).mono ?_
  intro e W' hop
  rw [ho] at hop
  obtain ⟨p, F8, rfl, hd8, hx8, ho8, _, hg8⟩ := hop
  obtain ⟨g8, rfl, hl8, _⟩ := hg8 rfl
  exact ⟨g8, F8, _, _, rfl, hd8, hl8, ⟨⟨hc.1, hc.2⟩, hp, h, clean_old hcl⟩, ext_new hb.size hx8 hF, fun k hk => Nat.le_trans hb.size hk, below_off hb ho8 hF⟩
end Go.Proofs.Yteemdjamgbbjhaa.Wl

/-
  States whose blocks lie in a set: what is told behind an op that is done.
-/
namespace Go.Proofs.Yteemdjamgbbjhaa.Wl
set_option maxRecDepth 100000
open Go.RowKit Go.Shelf Go.Proofs.Yteemdjamgbbjhaa.Wd Go.Proofs.Yteemdjamgbbjhaa.Dsk Go.Proofs.Yteemdjamgbbjhaa.Oct Go.Proofs.Yteemdjamgbbjhaa.Sum Go.Proofs.Yteemdjamgbbjhaa.Beq

def FrsN (W : World) (N : Nat → Prop) (A : Option Addr) (cc : Nat) (fs : List (List UInt8)) : Prop :=
  ∃ xs, W.ownsRow 0 37 1 (.slice A fs.length cc) fs.length xs ∧ (∀ k, (Value.slice A fs.length cc).ownBlock = some k → N k) ∧
    ∀ i, i < fs.length → ∃ Ai ni ci, xs[i]? = some (.slice Ai ni ci) ∧ By W Ai ni ci (fs.getD i []) ∧ ni ≤ 40000 ∧ ∀ k, (Value.slice Ai ni ci).ownBlock = some k → N k
theorem FrsN.nil (W : World) (N : Nat → Prop) : FrsN W N none 0 [] := ⟨[], World.ownsRow_nil _ _ _ _, fun k hk => (by cases hk), fun i hi => absurd hi (Nat.not_lt_zero _)⟩
theorem FrsN.keep {W W' : World} {N : Nat → Prop} {cc : Nat} {A : Option Addr} {fs : List (List UInt8)} (h : FrsN W N A cc fs) (hk : ∀ k, N k → k < W.heap.size → W'.heap[k]? = W.heap[k]?) : FrsN W' N A cc fs := by
  obtain ⟨xs, h1, h2, h3⟩ := h
  exact ⟨xs, own_kept h1 (fun k hkb hlt => hk k (h2 k hkb) hlt), h2, fun i hi => by
    obtain ⟨Ai, ni, ci, q1, q2, q3, q4⟩ := h3 i hi
    exact ⟨Ai, ni, ci, q1, own_kept q2 (fun k hkb hlt => hk k (q4 k hkb) hlt), q3, q4⟩⟩
/-- a state's value; its blocks lie in N -/
def StN (w : World) (N : Nat → Prop) (v : Value) (b : List UInt8) (fs : List (List UInt8)) : Prop :=
  ∃ As ns cs Al cl, v = .agg (scs As ns cs Al fs.length cl).toArray ∧ By w As ns cs b ∧ ns ≤ 40000 ∧ (∀ k, (Value.slice As ns cs).ownBlock = some k → N k) ∧ FrsN w N Al cl fs
theorem StN.keep {w w' : World} {N : Nat → Prop} {v : Value} {b : List UInt8} {fs : List (List UInt8)} (h : StN w N v b fs) (hk : ∀ k, N k → k < w.heap.size → w'.heap[k]? = w.heap[k]?) : StN w' N v b fs := by
  obtain ⟨As, ns, cs, Al, cl, h1, h2, h3, h4, h5⟩ := h
  exact ⟨As, ns, cs, Al, cl, h1, own_kept h2 (fun k hkb hlt => hk k (h4 k hkb) hlt), h3, h4, h5.keep hk⟩
theorem StN.below {w w' : World} {N : Nat → Prop} {v : Value} {b : List UInt8} {fs : List (List UInt8)} (h : StN w N v b fs) (hb : Below w.heap.size w w') : StN w' N v b fs := h.keep fun k _ hlt => hb.block k hlt
theorem StN.stv {w : World} {N : Nat → Prop} {v : Value} {b : List UInt8} {fs : List (List UInt8)} (h : StN w N v b fs) : StV w 0 v b fs := by
  obtain ⟨As, ns, cs, Al, cl, h1, h2, h3, h4, xs, h5, h6, h7⟩ := h
  exact ⟨As, ns, cs, Al, cl, h1, h2, h3, fun k _ => Nat.zero_le k, xs, h5, fun k _ => Nat.zero_le k, fun i hi => by
    obtain ⟨Ai, ni, ci, q1, q2, q3, q4⟩ := h7 i hi
    exact ⟨Ai, ni, ci, q1, q2, q3, fun k _ => Nat.zero_le k⟩⟩
theorem StN.of {w : World} {lo : Nat} {v : Value} {b : List UInt8} {fs : List (List UInt8)} (h : StV w lo v b fs) : StN w (fun k => lo ≤ k) v b fs := h
theorem StN.more {w : World} {N M : Nat → Prop} {v : Value} {b : List UInt8} {fs : List (List UInt8)} (h : StN w N v b fs) (hs : ∀ k, N k → M k) : StN w M v b fs := by
  obtain ⟨As, ns, cs, Al, cl, h1, h2, h3, h4, xs, h5, h6, h7⟩ := h
  exact ⟨As, ns, cs, Al, cl, h1, h2, h3, fun k hk => hs k (h4 k hk), xs, h5, fun k hk => hs k (h6 k hk), fun i hi => by
    obtain ⟨Ai, ni, ci, q1, q2, q3, q4⟩ := h7 i hi
    exact ⟨Ai, ni, ci, q1, q2, q3, fun k hk => hs k (q4 k hk)⟩⟩
theorem StN.tight {w : World} {N : Nat → Prop} {v : Value} {b : List UInt8} {fs : List (List UInt8)} (h : StN w N v b fs) : StN w (fun k => N k ∧ k < w.heap.size) v b fs := by
  obtain ⟨As, ns, cs, Al, cl, h1, h2, h3, h4, xs, h5, h6, h7⟩ := h
  have ht : ∀ {e : TypeId} {v : Value} {n : Nat} {xs : List Value}, w.ownsRow 0 e 1 v n xs → ∀ k, v.ownBlock = some k → k < w.heap.size := fun {e v n xs} ho k hk => by
    obtain ⟨cs', hr⟩ := own_type ho hk
    exact Row.lt hr
  exact ⟨As, ns, cs, Al, cl, h1, h2, h3, fun k hk => ⟨h4 k hk, ht h2 k hk⟩, xs, h5, fun k hk => ⟨h6 k hk, ht h5 k hk⟩, fun i hi => by
    obtain ⟨Ai, ni, ci, q1, q2, q3, q4⟩ := h7 i hi
    exact ⟨Ai, ni, ci, q1, q2, q3, fun k hk => ⟨q4 k hk, ht q2 k hk⟩⟩⟩
def N2 (w : World) (N : Nat → Prop) (k : Nat) : Prop := N k ∨ w.heap.size ≤ k
def AftN (w w' : World) (N : Nat → Prop) (b : List UInt8) (fs : List (List UInt8)) (e : Ending) : Prop := ∃ v, e = .returned v ∧ StN w' (N2 w N) v b fs ∧ Below w.heap.size w w'
set_option maxHeartbeats 8000000 in
theorem afterN_any (N : Nat → Prop) (v : Value) (b : List UInt8) (fs : List (List UInt8)) (o : OM) (w : World) (hs : StN w N v b fs) (hn : fs.length ≤ 10000) :
    Calls Try.prog 33 #[v, o.val] w fun e w' => AftN w w' N (aftB o b) (aftL o fs) e := by
  have mixed : Try.prog.follows .mixedOrders = true := by kernel_rfl
  obtain ⟨As, ns, cs, Al, cl, rfl, hb0, hm0, hG0, hfr⟩ := hs
  obtain ⟨w1, hw1⟩ : ∃ w1, w1 = ((w.alloc (.cells (scs As ns cs Al fs.length cl).toArray 60)).alloc (.cells o.cells.toArray 55)).alloc (.cells (scs none 0 0 none 0 0).toArray 60) := ⟨_, rfl⟩
  have hr1 : Row w1 w.heap.size 60 (scs As ns cs Al fs.length cl) := by rw [hw1]; exact ((Row.new w _ _).alloc _).alloc _
  have hr2 : Row w1 (w.heap.size + 1) 55 o.cells := by
    rw [hw1]
    have := (Row.new (w.alloc (.cells (scs As ns cs Al fs.length cl).toArray 60)) 55 o.cells).alloc (.cells (scs none 0 0 none 0 0).toArray 60)
    rwa [World.size_alloc] at this
  have hr3 : Row w1 (w.heap.size + 2) 60 (scs none 0 0 none 0 0) := by
    rw [hw1]
    have := Row.new ((w.alloc (.cells (scs As ns cs Al fs.length cl).toArray 60)).alloc (.cells o.cells.toArray 55)) 60 (scs none 0 0 none 0 0)
    rwa [World.size_alloc, World.size_alloc] at this
  have hbw : Below w.heap.size w w1 := by rw [hw1]; exact (((Below.refl _ _).alloc (Nat.le_refl _) _).alloc (by simp) _).alloc (by simp; omega) _
  have HW1 := Lib.hid hw1
  have HR1 := Lib.hid hr1
  have HR2 := Lib.hid hr2
  have HR3 := Lib.hid hr3
  have HBW := Lib.hid hbw
  have HY0 : Hid (By w1 As ns cs b) := Lib.hid (own_below hb0 hbw)
  have HFR := Lib.hid (hfr.keep (fun k _ hlt => hbw.block k hlt))
  have HG0 := Lib.hid hG0
  have HKD := Lib.hid (kind_any o w1)
  have HBY := Lib.hid (fun W => bytes_any o W)
  have HM := Lib.hid (opB_most o)
  have HLS := Lib.hid fun (As : Option Addr) (ns cs : Nat) (Al : Option Addr) (nl cl : Nat) => (show (scs As ns cs Al nl cl).length = (scs none 0 0 none 0 0).length from rfl)
  have HI2 := Lib.hid fun (As : Option Addr) (ns cs : Nat) (Al : Option Addr) (nl cl : Nat) => (show (Try.prog.info? 60).map (·.size) = some (scs As ns cs Al nl cl).length from size60)
  have HI4 : Hid ((Try.prog.info? 55).map (·.size) = some o.cells.length) := Lib.hid size55
  obtain ⟨kd, hkd⟩ : ∃ kd, kindW o.k = kd := ⟨_, rfl⟩
  rw [hkd] at HKD
  have HK := Lib.hid hkd
  obtain ⟨ob, hob⟩ : ∃ ob, opB o = ob := ⟨_, rfl⟩
  rw [hob] at HBY HM
  have HOB := Lib.hid hob
  clear hw1 hr1 hr2 hr3 hbw hb0 hfr hkd hob hG0
  obtain ⟨k, a, x, A, n, c, l⟩ := o
  unfold OM.val opv at HKD HBY
  unfold OM.val opv
  unfold OM.cells ocs at HR2 HI4 HW1
  dsimp only at HKD HBY HR2 HI4 HW1 ⊢
  unfold scs at HW1
  unfold scs
  have hww : ((w.alloc (.cells #[.slice As ns cs, .slice Al fs.length cl] 60)).alloc (.cells #[.int .i64 k, .int .i64 a, .int .u8 (x.toNat : Int), .slice A n c] 55)).alloc (.cells #[.slice none 0 0, .slice none 0 0] 60) = w1 := HW1.out.symm
  go_enter Try.func33, Try.ntmps33
  go_wp2_with (first
    | (with_reducible refine wpList_load_row (op := ⟨some 5, _, _, _, _, _⟩) ?_ 55 (.tmp 3) ?_ (w.heap.size + 1) 0 ?_ [.int .i64 k, .int .i64 a, .int .u8 (x.toNat : Int), .slice A n c] _ (Row.all HR2.out) Try.underlying55 ?_ HI4.out ?_))
  all_goals try (first | rfl | (simp; done))
  go_wp2_with fail
  refine HKD.out.mono ?_
  rintro e w2 ⟨rfl, hb2⟩
  have HB2 := Lib.hid hb2
  have R21 := Lib.hid (HR1.out.below hb2 HR1.out.lt)
  have R22 := Lib.hid (HR2.out.below hb2 HR2.out.lt)
  have R23 := Lib.hid (HR3.out.below hb2 HR3.out.lt)
  have HY2 : Hid (By w2 As ns cs b) := Lib.hid (own_below HY0.out hb2)
  have HF2 := Lib.hid (HFR.out.keep (fun k _ hlt => hb2.block k hlt))
  have HBW2 := Lib.hid (HBW.out.trans (hb2.mono HBW.out.size))
  clear hb2 hww HW1 HKD HR1 HR2 HR3 HY0 HFR HBW HB2
  obtain ⟨p1, hp1⟩ : ∃ p1, w.heap.size = p1 := ⟨_, rfl⟩
  obtain ⟨p2, hp2⟩ : ∃ p2, w.heap.size + 1 = p2 := ⟨_, rfl⟩
  obtain ⟨p3, hp3⟩ : ∃ p3, w.heap.size + 1 + 1 = p3 := ⟨_, rfl⟩
  have HP : Hid (p1 = w.heap.size ∧ p2 = w.heap.size + 1 ∧ p3 = w.heap.size + 2) := Lib.hid ⟨hp1.symm, hp2.symm, hp3.symm⟩
  rw [hp1] at R21
  rw [hp2] at R22
  rw [show w.heap.size + 2 = p3 from hp3] at R23
  rw [hp3, hp2, hp1]
  clear hp1 hp2 hp3
  by_cases h1 : kd = 1
  · have h1i : (kd : Int) = 1 := by omega
    have HAB : Hid (aftB ⟨k, a, x, A, n, c, l⟩ b = ob) := Lib.hid (by unfold aftB; rw [show kindW (⟨k, a, x, A, n, c, l⟩ : OM).k = kd from HK.out, if_pos h1, HOB.out])
    have HAL : Hid (aftL ⟨k, a, x, A, n, c, l⟩ fs = []) := Lib.hid (by unfold aftL; rw [show kindW (⟨k, a, x, A, n, c, l⟩ : OM).k = kd from HK.out, if_pos h1])
    clear h1
    go_wp2_with (first
      | (with_reducible refine wpList_load_row (op := ⟨some 8, _, _, _, _, _⟩) ?_ 55 (.tmp 3) ?_ p2 0 ?_ [.int .i64 k, .int .i64 a, .int .u8 (x.toNat : Int), .slice A n c] _ (Row.all R22.out) Try.underlying55 ?_ HI4.out ?_))
    all_goals try (first | rfl | (simp; done))
    go_wp2_with fail
    refine (HBY.out w2).mono ?_
    rintro e w3 ⟨g, rfl, hr3, hg3, hb3⟩
    have HY3 : Hid (By w3 (some ⟨g, 0, none⟩) ob.length ob.length ob) := Lib.hid (by_of_row hr3 HM.out)
    have R33 := Lib.hid (R23.out.below hb3 R23.out.lt)
    have HBW3 := Lib.hid (HBW2.out.trans (hb3.mono HBW2.out.size))
    have HGG : Hid (w2.heap.size ≤ g) := Lib.hid hg3
    clear hr3 hg3 hb3
    go_wp2_with (first
      | (with_reducible refine wpList_store_whole (op := ⟨none, _, _, _, _, _⟩) ?_ 60 (.tmp 4) (.tmp 10) ?_ p3 (scs (some ⟨g, 0, none⟩) ob.length ob.length none 0 0) ?_ ?_ 60 (scs none 0 0 none 0 0) R33.out (HLS.out _ _ _ _ _ _) (scs_one _ _ _ _ _ _) (HI2.out _ _ _ _ _ _) ?_))
    all_goals try (first | rfl | (simp; done))
    intro w4 hr4 hg4
    have HE : Hid (StN w4 (N2 w N) (.agg (scs (some ⟨g, 0, none⟩) ob.length ob.length none 0 0).toArray) ob []) := Lib.hid ⟨some ⟨g, 0, none⟩, ob.length, ob.length, none, 0, rfl, own_kept HY3.out (fun q hq hlt => hg4.block q hlt (fun e => by
      have e2 := Option.some.inj e
      obtain ⟨cs', hr'⟩ := own_type HY3.out hq
      exact absurd (row_type hr' (e2 ▸ R33.out)) (by decide))), HM.out, fun q hq => .inr (by have := Option.some.inj (show some g = some q from hq); have := HGG.out; have := HBW2.out.size; omega), FrsN.nil _ _⟩
    have HBE : Hid (Below w.heap.size w w4) := Lib.hid (HBW3.out.grown hg4 HBW3.out.size (fun q e => by have := Option.some.inj e; have := HP.out; omega))
    have HR4 := Lib.hid hr4
    clear hr4 hg4
    go_wp2
    exact bodyPost_ret (v := .agg (scs (some ⟨g, 0, none⟩) ob.length ob.length none 0 0).toArray) (results_cell (p := 4) (ty := 60) rfl _ _ ⟨p3, 0, none⟩ _ rfl (load_state HR4.out rfl)) rfl ⟨_, rfl, by rw [HAB.out, HAL.out]; exact HE.out, HBE.out⟩
  have h1i : ¬ (kd : Int) = 1 := by omega
  have HAB : Hid (aftB ⟨k, a, x, A, n, c, l⟩ b = b) := Lib.hid (by unfold aftB; rw [show kindW (⟨k, a, x, A, n, c, l⟩ : OM).k = kd from HK.out, if_neg h1])
  have HAL : Hid (aftL ⟨k, a, x, A, n, c, l⟩ fs = fs ++ [ob]) := Lib.hid (by unfold aftL; rw [show kindW (⟨k, a, x, A, n, c, l⟩ : OM).k = kd from HK.out, if_neg h1, HOB.out])
  obtain ⟨i0, hi0, hz0, hz1, hz2⟩ := info_parts info37
  obtain ⟨xs, ho, hoG, hat⟩ := HF2.out
  have HO := Lib.hid ho
  have HOG := Lib.hid hoG
  have HAT := Lib.hid hat
  have HNIL := Lib.hid (own_nil ho)
  have HXL : Hid (xs.length = fs.length) := Lib.hid (by have := ho.1; omega)
  have H1C : Hid (∀ u ∈ xs, u.oneCell' = true) := Lib.hid (fun u hu => by
    obtain ⟨i, hi, rfl⟩ := List.mem_iff_getElem.1 hu
    obtain ⟨Ai, ni, ci, s1, _⟩ := HAT.out i (by have := ho.1; omega)
    rw [List.getElem?_eq_getElem hi] at s1
    rw [Option.some.inj s1]; rfl)
  clear h1 ho hoG hat HF2
  go_wp2_with fail
  refine wp_region_held_drew (S := fun W => Row W p2 55 [.int .i64 k, .int .i64 a, .int .u8 (x.toNat : Int), .slice A n c]) (by kernel_rfl) R22.out (fun hHeld => ?_)
  have S0 := Lib.hid (show Row w2.drew p1 60 (scs As ns cs Al fs.length cl) ∧ Row w2.drew p2 55 [.int .i64 k, .int .i64 a, .int .u8 (x.toNat : Int), .slice A n c] from ⟨R21.out, hHeld⟩)
  clear hHeld
  refine wpAnyH_take (i := 1) (oi := ⟨some 12, _, _, _, _, _⟩) (v := ?vq1) rfl (by kernel_rfl) (by kernel_rfl) (by kernel_rfl) (fun _ _ _ h => h) (Or.inl ⟨by rfl, ?yq1⟩) S0.out.2 ?rq1
  case yq1 =>
    rintro w' hSw
    go_simp
    try with_reducible rfl
  try simp only [Act.put, List.setIfInBounds_toArray, List.set_cons_zero, List.set_cons_succ]
  refine wpAnyH_take (i := 4) (oi := ⟨some 15, _, _, _, _, _⟩) rfl (by kernel_rfl) (by kernel_rfl) (by kernel_rfl) (fun _ _ _ h => h) (yieldsIf_load_mid (by rfl) 55 (.tmp 3) rfl p2 0 ?xq2 [.int .i64 k, .int .i64 a, .int .u8 (x.toNat : Int), .slice A n c] _ (fun W h => Row.all h) Try.underlying55 rfl HI4.out) S0.out.2 ?rq2
  case xq2 => first | rfl | (simp [Act.eval, go_sem]; done)
  try simp only [Act.put, List.setIfInBounds_toArray, List.set_cons_zero, List.set_cons_succ]
  refine wpAnyH_ready (rs := [0, 2]) (by kernel_rfl) (by simp) ?_
  refine (AllReadyH.cons rfl (fun K hK => ?_) (AllReadyH.cons rfl (fun K hK => ?_) AllReadyH.nil))
  · go_simp
    have hba : Below w2.heap.size w2 ((w2.alloc (.cells #[] 37)).drew) := ((Below.refl _ _).alloc (Nat.le_refl _) _).drew
    have OWN0 : Hid (((w2.alloc (.cells #[] 37)).drew).ownsRow 0 37 1 (.slice (some ⟨w2.heap.size, 0, none⟩) 0 0) 0 []) := World.ownsRow_made w2 #[] 0 (Nat.zero_le _) (Nat.zero_le _) rfl
    generalize (w2.alloc (.cells #[] 37)).drew = w3 at hba OWN0 ⊢
    have HB3 := Lib.hid hba
    have SA : Hid (Row w3 p1 60 (scs As ns cs Al fs.length cl) ∧ Row w3 p2 55 [.int .i64 k, .int .i64 a, .int .u8 (x.toNat : Int), .slice A n c]) := Lib.hid ⟨R21.out.below hba R21.out.lt, R22.out.below hba R22.out.lt⟩
    have HO3 : Hid (w3.ownsRow 0 37 1 (.slice Al fs.length cl) fs.length xs) := Lib.hid (own_below HO.out hba)
    clear hba
    refine hK _ _ SA.out.2 (fun _ => ?_)
    clear hK K
    try simp only [Act.put, List.setIfInBounds_toArray, List.set_cons_zero, List.set_cons_succ]
    refine wpAnyH_ready (rs := [2]) (by kernel_rfl) (by simp) ?_
    refine (AllReadyH.cons rfl (fun K hK => ?_) AllReadyH.nil)
    have c1q4 := SA.out.1.cell 1
    rw [show (scs As ns cs Al fs.length cl)[1]? = some (.slice Al fs.length cl) from rfl] at c1q4
    go_simp
    refine hK _ _ SA.out.2 (fun _ => ?_)
    clear hK K
    try simp only [Act.put, List.setIfInBounds_toArray, List.set_cons_zero, List.set_cons_succ]
    refine wpAnyH_ready (rs := [3]) (by kernel_rfl) (by simp) ?_
    refine (AllReadyH.cons rfl (fun K hK => ?_) AllReadyH.nil)
    rw [if_pos (by rfl)]
    refine wp_append_opt (.tmp 11) (.tmp 13) 58 rfl 37 i0 (.slice none 0 0) 24 Try.underlying58 hi0 hz0 hz1 hz2 rfl (.slice (some ⟨w2.heap.size, 0, none⟩) 0 0) 0 [] rfl OWN0.out Al fs.length cl xs rfl HXL.out HNIL.out (fun ad hA => own_cells (by rw [← hA]; exact HO3.out)) H1C.out (by unfold maxLen; omega) (by omega) ?_
    intro v4 w4 hown4 hg4 hp4
    rw [List.nil_append, Nat.zero_add] at hown4
    have hb24 : Below w2.heap.size w2 w4 := HB3.out.grown hg4 HB3.out.size (fun q e => by have := Option.some.inj (show some w2.heap.size = some q from e); omega)
    have hn4 : ∀ q, v4.ownBlock = some q → w2.heap.size ≤ q := fun q hq => by
      rcases hp4 q hq with h | h
      · have := Option.some.inj (show some w2.heap.size = some q from h); omega
      · have := HB3.out.size; omega
    have HOWN4 := Lib.hid hown4
    have HN4 := Lib.hid hn4
    have HB4 := Lib.hid hb24
    have SB : Hid (Row w4 p1 60 (scs As ns cs Al fs.length cl) ∧ Row w4 p2 55 [.int .i64 k, .int .i64 a, .int .u8 (x.toNat : Int), .slice A n c]) := Lib.hid ⟨R21.out.below hb24 R21.out.lt, R22.out.below hb24 R22.out.lt⟩
    clear hown4 hg4 hp4 hb24 hn4 OWN0 HO3
    refine hK _ _ SB.out.2 (fun _ => ?_)
    clear hK K
    try simp only [Act.put, List.setIfInBounds_toArray, List.set_cons_zero, List.set_cons_succ]
    refine wpAnyH_ready (rs := [5]) (by kernel_rfl) (by simp) ?_
    refine (AllReadyH.cons rfl (fun K hK => ?_) AllReadyH.nil)
    go_simp
    refine (HBY.out w4).mono ?_
    rintro e w5 ⟨g, rfl, hr5, hg5, hb5⟩
    have HR5 := Lib.hid hr5
    have HG5 : Hid (w4.heap.size ≤ g) := Lib.hid hg5
    have HB5 := Lib.hid hb5
    have SC : Hid (Row w5 p1 60 (scs As ns cs Al fs.length cl) ∧ Row w5 p2 55 [.int .i64 k, .int .i64 a, .int .u8 (x.toNat : Int), .slice A n c]) := Lib.hid ⟨SB.out.1.below hb5 SB.out.1.lt, SB.out.2.below hb5 SB.out.2.lt⟩
    clear hr5 hg5 hb5
    refine hK _ _ SC.out.2 (fun _ => ?_)
    clear hK K
    try simp only [Act.put, List.setIfInBounds_toArray, List.set_cons_zero, List.set_cons_succ]
    refine wpAnyH_ready (rs := [6]) (by kernel_rfl) (by simp) ?_
    refine (AllReadyH.cons rfl (fun K hK => ?_) AllReadyH.nil)
    go_simp
    have hba : Below w5.heap.size w5 (w5.alloc (.cells #[.slice (some ⟨g, 0, none⟩) ob.length ob.length] 37)) := (Below.refl _ _).alloc (Nat.le_refl _) _
    have HNW : Hid (∀ j u, ([Value.slice (some ⟨g, 0, none⟩) ob.length ob.length] : List Value)[j]? = some u → (w5.alloc (.cells #[.slice (some ⟨g, 0, none⟩) ob.length ob.length] 37)).cell? ((⟨w5.heap.size, 0, none⟩ : Addr).add j) = some u) := Lib.hid (cells_one w5 _ _)
    generalize w5.alloc (.cells #[.slice (some ⟨g, 0, none⟩) ob.length ob.length] 37) = w6 at hba HNW ⊢
    have HB6 := Lib.hid hba
    have SD : Hid (Row w6 p1 60 (scs As ns cs Al fs.length cl) ∧ Row w6 p2 55 [.int .i64 k, .int .i64 a, .int .u8 (x.toNat : Int), .slice A n c]) := Lib.hid ⟨SC.out.1.below hba SC.out.1.lt, SC.out.2.below hba SC.out.2.lt⟩
    have HOWN6 := Lib.hid (own_below (own_below HOWN4.out HB5.out) hba)
    clear hba
    refine hK _ _ SD.out.2 (fun _ => ?_)
    clear hK K
    try simp only [Act.put, List.setIfInBounds_toArray, List.set_cons_zero, List.set_cons_succ]
    refine wpAnyH_ready (rs := [7]) (by kernel_rfl) (by simp) ?_
    refine (AllReadyH.cons rfl (fun K hK => ?_) AllReadyH.nil)
    rw [if_pos (by rfl)]
    refine wp_append_placed (.tmp 14) (.tmp 17) 58 rfl 37 i0 (.slice none 0 0) 24 Try.underlying58 hi0 hz0 hz1 hz2 rfl v4 fs.length xs rfl HOWN6.out ⟨w5.heap.size, 0, none⟩ 1 1 [.slice (some ⟨g, 0, none⟩) ob.length ob.length] rfl rfl HNW.out (by intro u hu; rw [List.mem_singleton.1 hu]; rfl) (by unfold maxLen; omega) (by omega) ?_
    intro v7 w7 hown7 hg7 hp7
    have hB46 : Below w4.heap.size w4 w6 := HB5.out.trans (HB6.out.mono HB5.out.size)
    have hb27 : Below w2.heap.size w2 w7 := (HB4.out.trans (hB46.mono HB4.out.size)).grown hg7 (Nat.le_trans HB4.out.size hB46.size) (fun q e => HN4.out q e)
    obtain ⟨A7, c7, rfl⟩ : ∃ A7 c7, v7 = .slice A7 (fs.length + 1) c7 := by
      rcases hown7.2 with ⟨_, h0⟩ | ⟨g', cap, cur, hv, _⟩
      · omega
      · exact ⟨_, _, hv⟩
    have hn7 : ∀ q, (Value.slice A7 (fs.length + 1) c7).ownBlock = some q → w2.heap.size ≤ q := fun q hq => by
      rcases hp7 q hq with h | h
      · exact HN4.out q h
      · have := HB4.out.size; have := hB46.size; omega
    have hrg : Row w7 g 5 (bv ob) := own_apart HOWN6.out hg7 (HR5.out.below HB6.out HR5.out.lt) (by decide)
    have HOWN7 := Lib.hid hown7
    have HN7 := Lib.hid hn7
    have HB7 := Lib.hid hb27
    have HRG := Lib.hid hrg
    have HGL : Hid (w2.heap.size ≤ g) := Lib.hid (Nat.le_trans HB4.out.size HG5.out)
    have SE : Hid (Row w7 p1 60 (scs As ns cs Al fs.length cl) ∧ Row w7 p2 55 [.int .i64 k, .int .i64 a, .int .u8 (x.toNat : Int), .slice A n c]) := Lib.hid ⟨R21.out.below hb27 R21.out.lt, R22.out.below hb27 R22.out.lt⟩
    clear hown7 hg7 hp7 hb27 hn7 hrg hB46 HOWN6 HNW
    refine hK _ _ SE.out.2 (fun _ => ?_)
    clear hK K
    try simp only [Act.put, List.setIfInBounds_toArray, List.set_cons_zero, List.set_cons_succ]
    refine wpAnyH_take (i := 8) (oi := ⟨some 19, _, _, _, _, _⟩) (v := ?vq9) rfl (by kernel_rfl) (by kernel_rfl) (by kernel_rfl) (fun _ _ _ h => h) (Or.inl ⟨by rfl, ?yq9⟩) SE.out.2 ?rq9
    case yq9 =>
      rintro w' hSw
      go_simp
      try with_reducible rfl
    try simp only [Act.put, List.setIfInBounds_toArray, List.set_cons_zero, List.set_cons_succ]
    refine wpAnyH_ready (rs := [9]) (by kernel_rfl) (by simp) ?_
    refine (AllReadyH.cons rfl (fun K hK => ?_) AllReadyH.nil)
    have hc9 : w7.cell? ⟨p1, 1, none⟩ = some (.slice Al fs.length cl) := SE.out.1.cell 1
    have hf9 := SE.out.1.frozen 1
    have HR9 : Hid (Row (w7.setCell ⟨p1, 1, none⟩ (.slice A7 (fs.length + 1) c7)) p1 60 (scs As ns cs A7 (fs.length + 1) c7)) := Lib.hid (SE.out.1.store 1 (.slice A7 (fs.length + 1) c7))
    have HG9 : Hid (w7.grownBy (w7.setCell ⟨p1, 1, none⟩ (.slice A7 (fs.length + 1) c7)) (some p1)) := Lib.hid (grown_setAt w7 _ _)
    have HS9 : Hid (Row (w7.setCell ⟨p1, 1, none⟩ (.slice A7 (fs.length + 1) c7)) p2 55 [.int .i64 k, .int .i64 a, .int .u8 (x.toNat : Int), .slice A n c]) := Lib.hid (SE.out.2.far (by have := HP.out; show p2 ≠ p1; omega) _)
    go_simp
    generalize w7.setCell ⟨p1, 1, none⟩ (.slice A7 (fs.length + 1) c7) = w8 at HR9 HG9 HS9 ⊢
    refine hK _ _ HS9.out (fun _ => ?_)
    clear hK K
    try simp only [Act.put, List.setIfInBounds_toArray, List.set_cons_zero, List.set_cons_succ]
    refine wpAnyH_done (by kernel_rfl) ?_ _
  
    have R83 : Hid (Row w8 p3 60 (scs none 0 0 none 0 0)) := Lib.hid ((R23.out.below HB7.out R23.out.lt).grown HG9.out (fun e => by have := Option.some.inj e; have := HP.out; omega))
    go_wp2_with (first
      | (with_reducible refine wpList_load_row (op := ⟨some 20, _, _, _, _, _⟩) ?_ 60 (.tmp 2) ?_ p1 0 ?_ (scs As ns cs A7 (fs.length + 1) c7) _ (Row.all HR9.out) Try.underlying60 ?_ (HI2.out _ _ _ _ _ _) ?_)
      | (with_reducible refine wpList_store_whole (op := ⟨none, _, _, _, _, _⟩) ?_ 60 (.tmp 4) (.tmp 20) ?_ p3 (scs As ns cs A7 (fs.length + 1) c7) ?_ ?_ 60 (scs none 0 0 none 0 0) R83.out (HLS.out _ _ _ _ _ _) (scs_one _ _ _ _ _ _) (HI2.out _ _ _ _ _ _) ?_))
    all_goals try (first | rfl | (simp; done))
    intro w9 hr9 hg9
    have hlp := HP.out
    have hbw := HBW2.out.size
    have hb79 : ∀ q, q ≠ p1 → q ≠ p3 → q < w7.heap.size → w9.heap[q]? = w7.heap[q]? := fun q h1 h3 hlt => (hg9.block q (Nat.lt_of_lt_of_le hlt HG9.out.size) (fun e => h3 (Option.some.inj e))).trans (HG9.out.block q hlt (fun e => h1 (Option.some.inj e)))
    have hu7 : ∀ q cs', Row w7 q 5 cs' → Row w9 q 5 cs' := fun q cs' hr => (hb79 q (fun e => absurd (row_type hr (e ▸ SE.out.1)) (by decide)) (fun e => absurd (row_type hr (e ▸ (R23.out.below HB7.out R23.out.lt))) (by decide)) hr.lt).trans hr
    have hy7 : ∀ {E : Option Addr} {m d : Nat} {z : List UInt8}, By w7 E m d z → By w9 E m d z := fun {E m d z} hz => own_kept hz (fun q hq hlt => by
      obtain ⟨cs', hr'⟩ := own_type hz hq
      exact (hu7 q cs' hr').trans (show w7.heap[q]? = _ from hr').symm)
    have HE : Hid (StN w9 (N2 w N) (.agg (scs As ns cs A7 (fs.length + 1) c7).toArray) b (fs ++ [ob])) := Lib.hid (by
      refine ⟨As, ns, cs, A7, c7, by rw [List.length_append]; rfl, hy7 (own_below HY2.out HB7.out), hm0, fun q hq => .inl (HG0.out q hq), xs ++ [.slice (some ⟨g, 0, none⟩) ob.length ob.length], ?_, ?_, ?_⟩
      · rw [List.length_append]
        exact own_kept HOWN7.out (fun q hq hlt => by
          obtain ⟨cs', hr'⟩ := own_type HOWN7.out hq
          exact hb79 q (fun e => absurd (row_type hr' (e ▸ SE.out.1)) (by decide)) (fun e => absurd (row_type hr' (e ▸ (R23.out.below HB7.out R23.out.lt))) (by decide)) hlt)
      · intro q hq
        rw [List.length_append] at hq
        have := HN7.out q hq
        exact .inr (by omega)
      · intro i hi
        rw [List.length_append] at hi
        by_cases hin : i < fs.length
        · obtain ⟨Ai, ni, ci, s1, s2, s3, s4⟩ := HAT.out i hin
          refine ⟨Ai, ni, ci, ?_, ?_, s3, fun q hq => .inl (s4 q hq)⟩
          · rw [List.getElem?_append_left (by rw [HXL.out]; exact hin)]; exact s1
          · rw [List.getD_eq_getElem?_getD, List.getElem?_append_left hin, ← List.getD_eq_getElem?_getD]
            exact hy7 (own_below s2 HB7.out)
        · have hie : i = fs.length := by simp only [List.length_cons, List.length_nil] at hi; omega
          rw [hie]
          refine ⟨some ⟨g, 0, none⟩, ob.length, ob.length, ?_, ?_, HM.out, fun q hq => ?_⟩
          · rw [List.getElem?_append_right (by rw [HXL.out]; exact Nat.le_refl _), HXL.out, Nat.sub_self]; rfl
          · rw [List.getD_eq_getElem?_getD, List.getElem?_append_right (Nat.le_refl _), Nat.sub_self]
            exact hy7 (by_of_row HRG.out HM.out)
          · exact .inr (by have := Option.some.inj (show some g = some q from hq); have := HGL.out; omega))
    have HBE : Hid (Below w.heap.size w w9) := Lib.hid (((HBW2.out.trans (HB7.out.mono HBW2.out.size)).grown HG9.out (Nat.le_trans hbw HB7.out.size) (fun q e => by have := Option.some.inj e; omega)).grown hg9 (Nat.le_trans (Nat.le_trans hbw HB7.out.size) HG9.out.size) (fun q e => by have := Option.some.inj e; omega))
    have HR9' := Lib.hid hr9
    clear hr9 hg9 hb79 hu7 hy7 hlp hbw
    go_wp2
    exact bodyPost_ret (v := .agg (scs As ns cs A7 (fs.length + 1) c7).toArray) (results_cell (p := 4) (ty := 60) rfl _ _ ⟨p3, 0, none⟩ _ rfl (load_state HR9'.out rfl)) rfl ⟨_, rfl, by rw [HAB.out, HAL.out]; exact HE.out, HBE.out⟩
  · have c1q11 := S0.out.1.cell 1
    rw [show (scs As ns cs Al fs.length cl)[1]? = some (.slice Al fs.length cl) from rfl] at c1q11
    go_simp
    refine hK _ _ S0.out.2 (fun _ => ?_)
    clear hK K
    try simp only [Act.put, List.setIfInBounds_toArray, List.set_cons_zero, List.set_cons_succ]
    refine wpAnyH_ready (rs := [0]) (by kernel_rfl) (by simp) ?_
    refine (AllReadyH.cons rfl (fun K hK => ?_) AllReadyH.nil)
    go_simp
    have hba : Below w2.heap.size w2 ((w2.alloc (.cells #[] 37)).drew) := ((Below.refl _ _).alloc (Nat.le_refl _) _).drew
    have OWN0 : Hid (((w2.alloc (.cells #[] 37)).drew).ownsRow 0 37 1 (.slice (some ⟨w2.heap.size, 0, none⟩) 0 0) 0 []) := World.ownsRow_made w2 #[] 0 (Nat.zero_le _) (Nat.zero_le _) rfl
    generalize (w2.alloc (.cells #[] 37)).drew = w3 at hba OWN0 ⊢
    have HB3 := Lib.hid hba
    have SA : Hid (Row w3 p1 60 (scs As ns cs Al fs.length cl) ∧ Row w3 p2 55 [.int .i64 k, .int .i64 a, .int .u8 (x.toNat : Int), .slice A n c]) := Lib.hid ⟨R21.out.below hba R21.out.lt, R22.out.below hba R22.out.lt⟩
    have HO3 : Hid (w3.ownsRow 0 37 1 (.slice Al fs.length cl) fs.length xs) := Lib.hid (own_below HO.out hba)
    clear hba
    refine hK _ _ SA.out.2 (fun _ => ?_)
    clear hK K
    try simp only [Act.put, List.setIfInBounds_toArray, List.set_cons_zero, List.set_cons_succ]
    refine wpAnyH_ready (rs := [3]) (by kernel_rfl) (by simp) ?_
    refine (AllReadyH.cons rfl (fun K hK => ?_) AllReadyH.nil)
    rw [if_pos (by rfl)]
    refine wp_append_opt (.tmp 11) (.tmp 13) 58 rfl 37 i0 (.slice none 0 0) 24 Try.underlying58 hi0 hz0 hz1 hz2 rfl (.slice (some ⟨w2.heap.size, 0, none⟩) 0 0) 0 [] rfl OWN0.out Al fs.length cl xs rfl HXL.out HNIL.out (fun ad hA => own_cells (by rw [← hA]; exact HO3.out)) H1C.out (by unfold maxLen; omega) (by omega) ?_
    intro v4 w4 hown4 hg4 hp4
    rw [List.nil_append, Nat.zero_add] at hown4
    have hb24 : Below w2.heap.size w2 w4 := HB3.out.grown hg4 HB3.out.size (fun q e => by have := Option.some.inj (show some w2.heap.size = some q from e); omega)
    have hn4 : ∀ q, v4.ownBlock = some q → w2.heap.size ≤ q := fun q hq => by
      rcases hp4 q hq with h | h
      · have := Option.some.inj (show some w2.heap.size = some q from h); omega
      · have := HB3.out.size; omega
    have HOWN4 := Lib.hid hown4
    have HN4 := Lib.hid hn4
    have HB4 := Lib.hid hb24
    have SB : Hid (Row w4 p1 60 (scs As ns cs Al fs.length cl) ∧ Row w4 p2 55 [.int .i64 k, .int .i64 a, .int .u8 (x.toNat : Int), .slice A n c]) := Lib.hid ⟨R21.out.below hb24 R21.out.lt, R22.out.below hb24 R22.out.lt⟩
    clear hown4 hg4 hp4 hb24 hn4 OWN0 HO3
    refine hK _ _ SB.out.2 (fun _ => ?_)
    clear hK K
    try simp only [Act.put, List.setIfInBounds_toArray, List.set_cons_zero, List.set_cons_succ]
    refine wpAnyH_ready (rs := [5]) (by kernel_rfl) (by simp) ?_
    refine (AllReadyH.cons rfl (fun K hK => ?_) AllReadyH.nil)
    go_simp
    refine (HBY.out w4).mono ?_
    rintro e w5 ⟨g, rfl, hr5, hg5, hb5⟩
    have HR5 := Lib.hid hr5
    have HG5 : Hid (w4.heap.size ≤ g) := Lib.hid hg5
    have HB5 := Lib.hid hb5
    have SC : Hid (Row w5 p1 60 (scs As ns cs Al fs.length cl) ∧ Row w5 p2 55 [.int .i64 k, .int .i64 a, .int .u8 (x.toNat : Int), .slice A n c]) := Lib.hid ⟨SB.out.1.below hb5 SB.out.1.lt, SB.out.2.below hb5 SB.out.2.lt⟩
    clear hr5 hg5 hb5
    refine hK _ _ SC.out.2 (fun _ => ?_)
    clear hK K
    try simp only [Act.put, List.setIfInBounds_toArray, List.set_cons_zero, List.set_cons_succ]
    refine wpAnyH_ready (rs := [6]) (by kernel_rfl) (by simp) ?_
    refine (AllReadyH.cons rfl (fun K hK => ?_) AllReadyH.nil)
    go_simp
    have hba : Below w5.heap.size w5 (w5.alloc (.cells #[.slice (some ⟨g, 0, none⟩) ob.length ob.length] 37)) := (Below.refl _ _).alloc (Nat.le_refl _) _
    have HNW : Hid (∀ j u, ([Value.slice (some ⟨g, 0, none⟩) ob.length ob.length] : List Value)[j]? = some u → (w5.alloc (.cells #[.slice (some ⟨g, 0, none⟩) ob.length ob.length] 37)).cell? ((⟨w5.heap.size, 0, none⟩ : Addr).add j) = some u) := Lib.hid (cells_one w5 _ _)
    generalize w5.alloc (.cells #[.slice (some ⟨g, 0, none⟩) ob.length ob.length] 37) = w6 at hba HNW ⊢
    have HB6 := Lib.hid hba
    have SD : Hid (Row w6 p1 60 (scs As ns cs Al fs.length cl) ∧ Row w6 p2 55 [.int .i64 k, .int .i64 a, .int .u8 (x.toNat : Int), .slice A n c]) := Lib.hid ⟨SC.out.1.below hba SC.out.1.lt, SC.out.2.below hba SC.out.2.lt⟩
    have HOWN6 := Lib.hid (own_below (own_below HOWN4.out HB5.out) hba)
    clear hba
    refine hK _ _ SD.out.2 (fun _ => ?_)
    clear hK K
    try simp only [Act.put, List.setIfInBounds_toArray, List.set_cons_zero, List.set_cons_succ]
    refine wpAnyH_ready (rs := [7]) (by kernel_rfl) (by simp) ?_
    refine (AllReadyH.cons rfl (fun K hK => ?_) AllReadyH.nil)
    rw [if_pos (by rfl)]
    refine wp_append_placed (.tmp 14) (.tmp 17) 58 rfl 37 i0 (.slice none 0 0) 24 Try.underlying58 hi0 hz0 hz1 hz2 rfl v4 fs.length xs rfl HOWN6.out ⟨w5.heap.size, 0, none⟩ 1 1 [.slice (some ⟨g, 0, none⟩) ob.length ob.length] rfl rfl HNW.out (by intro u hu; rw [List.mem_singleton.1 hu]; rfl) (by unfold maxLen; omega) (by omega) ?_
    intro v7 w7 hown7 hg7 hp7
    have hB46 : Below w4.heap.size w4 w6 := HB5.out.trans (HB6.out.mono HB5.out.size)
    have hb27 : Below w2.heap.size w2 w7 := (HB4.out.trans (hB46.mono HB4.out.size)).grown hg7 (Nat.le_trans HB4.out.size hB46.size) (fun q e => HN4.out q e)
    obtain ⟨A7, c7, rfl⟩ : ∃ A7 c7, v7 = .slice A7 (fs.length + 1) c7 := by
      rcases hown7.2 with ⟨_, h0⟩ | ⟨g', cap, cur, hv, _⟩
      · omega
      · exact ⟨_, _, hv⟩
    have hn7 : ∀ q, (Value.slice A7 (fs.length + 1) c7).ownBlock = some q → w2.heap.size ≤ q := fun q hq => by
      rcases hp7 q hq with h | h
      · exact HN4.out q h
      · have := HB4.out.size; have := hB46.size; omega
    have hrg : Row w7 g 5 (bv ob) := own_apart HOWN6.out hg7 (HR5.out.below HB6.out HR5.out.lt) (by decide)
    have HOWN7 := Lib.hid hown7
    have HN7 := Lib.hid hn7
    have HB7 := Lib.hid hb27
    have HRG := Lib.hid hrg
    have HGL : Hid (w2.heap.size ≤ g) := Lib.hid (Nat.le_trans HB4.out.size HG5.out)
    have SE : Hid (Row w7 p1 60 (scs As ns cs Al fs.length cl) ∧ Row w7 p2 55 [.int .i64 k, .int .i64 a, .int .u8 (x.toNat : Int), .slice A n c]) := Lib.hid ⟨R21.out.below hb27 R21.out.lt, R22.out.below hb27 R22.out.lt⟩
    clear hown7 hg7 hp7 hb27 hn7 hrg hB46 HOWN6 HNW
    refine hK _ _ SE.out.2 (fun _ => ?_)
    clear hK K
    try simp only [Act.put, List.setIfInBounds_toArray, List.set_cons_zero, List.set_cons_succ]
    refine wpAnyH_take (i := 8) (oi := ⟨some 19, _, _, _, _, _⟩) (v := ?vq17) rfl (by kernel_rfl) (by kernel_rfl) (by kernel_rfl) (fun _ _ _ h => h) (Or.inl ⟨by rfl, ?yq17⟩) SE.out.2 ?rq17
    case yq17 =>
      rintro w' hSw
      go_simp
      try with_reducible rfl
    try simp only [Act.put, List.setIfInBounds_toArray, List.set_cons_zero, List.set_cons_succ]
    refine wpAnyH_ready (rs := [9]) (by kernel_rfl) (by simp) ?_
    refine (AllReadyH.cons rfl (fun K hK => ?_) AllReadyH.nil)
    have hc9 : w7.cell? ⟨p1, 1, none⟩ = some (.slice Al fs.length cl) := SE.out.1.cell 1
    have hf9 := SE.out.1.frozen 1
    have HR9 : Hid (Row (w7.setCell ⟨p1, 1, none⟩ (.slice A7 (fs.length + 1) c7)) p1 60 (scs As ns cs A7 (fs.length + 1) c7)) := Lib.hid (SE.out.1.store 1 (.slice A7 (fs.length + 1) c7))
    have HG9 : Hid (w7.grownBy (w7.setCell ⟨p1, 1, none⟩ (.slice A7 (fs.length + 1) c7)) (some p1)) := Lib.hid (grown_setAt w7 _ _)
    have HS9 : Hid (Row (w7.setCell ⟨p1, 1, none⟩ (.slice A7 (fs.length + 1) c7)) p2 55 [.int .i64 k, .int .i64 a, .int .u8 (x.toNat : Int), .slice A n c]) := Lib.hid (SE.out.2.far (by have := HP.out; show p2 ≠ p1; omega) _)
    go_simp
    generalize w7.setCell ⟨p1, 1, none⟩ (.slice A7 (fs.length + 1) c7) = w8 at HR9 HG9 HS9 ⊢
    refine hK _ _ HS9.out (fun _ => ?_)
    clear hK K
    try simp only [Act.put, List.setIfInBounds_toArray, List.set_cons_zero, List.set_cons_succ]
    refine wpAnyH_done (by kernel_rfl) ?_ _
  
    have R83 : Hid (Row w8 p3 60 (scs none 0 0 none 0 0)) := Lib.hid ((R23.out.below HB7.out R23.out.lt).grown HG9.out (fun e => by have := Option.some.inj e; have := HP.out; omega))
    go_wp2_with (first
      | (with_reducible refine wpList_load_row (op := ⟨some 20, _, _, _, _, _⟩) ?_ 60 (.tmp 2) ?_ p1 0 ?_ (scs As ns cs A7 (fs.length + 1) c7) _ (Row.all HR9.out) Try.underlying60 ?_ (HI2.out _ _ _ _ _ _) ?_)
      | (with_reducible refine wpList_store_whole (op := ⟨none, _, _, _, _, _⟩) ?_ 60 (.tmp 4) (.tmp 20) ?_ p3 (scs As ns cs A7 (fs.length + 1) c7) ?_ ?_ 60 (scs none 0 0 none 0 0) R83.out (HLS.out _ _ _ _ _ _) (scs_one _ _ _ _ _ _) (HI2.out _ _ _ _ _ _) ?_))
    all_goals try (first | rfl | (simp; done))
    intro w9 hr9 hg9
    have hlp := HP.out
    have hbw := HBW2.out.size
    have hb79 : ∀ q, q ≠ p1 → q ≠ p3 → q < w7.heap.size → w9.heap[q]? = w7.heap[q]? := fun q h1 h3 hlt => (hg9.block q (Nat.lt_of_lt_of_le hlt HG9.out.size) (fun e => h3 (Option.some.inj e))).trans (HG9.out.block q hlt (fun e => h1 (Option.some.inj e)))
    have hu7 : ∀ q cs', Row w7 q 5 cs' → Row w9 q 5 cs' := fun q cs' hr => (hb79 q (fun e => absurd (row_type hr (e ▸ SE.out.1)) (by decide)) (fun e => absurd (row_type hr (e ▸ (R23.out.below HB7.out R23.out.lt))) (by decide)) hr.lt).trans hr
    have hy7 : ∀ {E : Option Addr} {m d : Nat} {z : List UInt8}, By w7 E m d z → By w9 E m d z := fun {E m d z} hz => own_kept hz (fun q hq hlt => by
      obtain ⟨cs', hr'⟩ := own_type hz hq
      exact (hu7 q cs' hr').trans (show w7.heap[q]? = _ from hr').symm)
    have HE : Hid (StN w9 (N2 w N) (.agg (scs As ns cs A7 (fs.length + 1) c7).toArray) b (fs ++ [ob])) := Lib.hid (by
      refine ⟨As, ns, cs, A7, c7, by rw [List.length_append]; rfl, hy7 (own_below HY2.out HB7.out), hm0, fun q hq => .inl (HG0.out q hq), xs ++ [.slice (some ⟨g, 0, none⟩) ob.length ob.length], ?_, ?_, ?_⟩
      · rw [List.length_append]
        exact own_kept HOWN7.out (fun q hq hlt => by
          obtain ⟨cs', hr'⟩ := own_type HOWN7.out hq
          exact hb79 q (fun e => absurd (row_type hr' (e ▸ SE.out.1)) (by decide)) (fun e => absurd (row_type hr' (e ▸ (R23.out.below HB7.out R23.out.lt))) (by decide)) hlt)
      · intro q hq
        rw [List.length_append] at hq
        have := HN7.out q hq
        exact .inr (by omega)
      · intro i hi
        rw [List.length_append] at hi
        by_cases hin : i < fs.length
        · obtain ⟨Ai, ni, ci, s1, s2, s3, s4⟩ := HAT.out i hin
          refine ⟨Ai, ni, ci, ?_, ?_, s3, fun q hq => .inl (s4 q hq)⟩
          · rw [List.getElem?_append_left (by rw [HXL.out]; exact hin)]; exact s1
          · rw [List.getD_eq_getElem?_getD, List.getElem?_append_left hin, ← List.getD_eq_getElem?_getD]
            exact hy7 (own_below s2 HB7.out)
        · have hie : i = fs.length := by simp only [List.length_cons, List.length_nil] at hi; omega
          rw [hie]
          refine ⟨some ⟨g, 0, none⟩, ob.length, ob.length, ?_, ?_, HM.out, fun q hq => ?_⟩
          · rw [List.getElem?_append_right (by rw [HXL.out]; exact Nat.le_refl _), HXL.out, Nat.sub_self]; rfl
          · rw [List.getD_eq_getElem?_getD, List.getElem?_append_right (Nat.le_refl _), Nat.sub_self]
            exact hy7 (by_of_row HRG.out HM.out)
          · exact .inr (by have := Option.some.inj (show some g = some q from hq); have := HGL.out; omega))
    have HBE : Hid (Below w.heap.size w w9) := Lib.hid (((HBW2.out.trans (HB7.out.mono HBW2.out.size)).grown HG9.out (Nat.le_trans hbw HB7.out.size) (fun q e => by have := Option.some.inj e; omega)).grown hg9 (Nat.le_trans (Nat.le_trans hbw HB7.out.size) HG9.out.size) (fun q e => by have := Option.some.inj e; omega))
    have HR9' := Lib.hid hr9
    clear hr9 hg9 hb79 hu7 hy7 hlp hbw
    go_wp2
    exact bodyPost_ret (v := .agg (scs As ns cs A7 (fs.length + 1) c7).toArray) (results_cell (p := 4) (ty := 60) rfl _ _ ⟨p3, 0, none⟩ _ rfl (load_state HR9'.out rfl)) rfl ⟨_, rfl, by rw [HAB.out, HAL.out]; exact HE.out, HBE.out⟩
end Go.Proofs.Yteemdjamgbbjhaa.Wl

/-
  An append and a checkpoint on a disk on which nothing fails: what is told, and what stands then.
-/
namespace Go.Proofs.Yteemdjamgbbjhaa.Wl
set_option maxRecDepth 100000
open Go.RowKit Go.Shelf Go.Proofs.Yteemdjamgbbjhaa.Wd Go.Proofs.Yteemdjamgbbjhaa.Dsk Go.Proofs.Yteemdjamgbbjhaa.Oct Go.Proofs.Yteemdjamgbbjhaa.Sum Go.Proofs.Yteemdjamgbbjhaa.Beq

/-- what stands behind an op, over what stood -/
def Nxt (W W' : World) (F G : Nat → Prop) (dg g t : Nat) (fs : List (List UInt8)) : Prop :=
  ∃ F' G' d', Dk W' F' dg d' ∧ Log W' G' g dg 8 t fs false ∧ Ext F F' W W' ∧ Ext G G' W W' ∧ Lies d' t 8 fs ∧ Off (fun k => F k ∨ G k) W W'
theorem ext_tight {F F' : Nat → Prop} {W W' : World} (h : Ext F F' W W') : Ext F (fun k => F' k ∧ k < W'.heap.size) W W' := fun k hk => h k hk.1
theorem off_of_below {F : Nat → Prop} {W W' : World} (h : Below W.heap.size W W') : Off F W W' := ⟨h.os, h.tape, h.output, h.size, fun k hk _ => h.block k hk⟩
theorem app_nx {g dg t : Nat} {fs : List (List UInt8)} {W : World} {F G : Nat → Prop} {d : DM} (hd : Dk W F dg d) (hlog : Log W G g dg 8 t fs false) (hl : Lies d t 8 fs) (hlen : fs.length ≤ 42) (A2 : Option Addr) (m c2 : Nat) (b : List UInt8) (hby : By W A2 m c2 b) (hbl : b.length = m) (hm : m ≤ 400) :
    Calls Try.prog 16 #[.pointer (some ⟨g, 0, none⟩), .slice A2 m c2] W fun e W' => ∃ v, e = .returned (.int .i64 v) ∧ ((v = 0 ∧ Nxt W W' F G dg g t (fs ++ [b])) ∨ (v ≠ 0 ∧ Nxt W W' F G dg g t fs)) := by
  have hus := hl.shows.used
  by_cases hroom : sects m ≤ 8 - usedM fs
  · have hap := append_lies hl (b := b) (by omega) (by rw [hbl]; exact hroom)
    refine (append_ok g dg 8 t fs A2 m c2 b d F G W hlog hd hby.sl (by omega) (by omega) hl.shows.tm hus hroom (by omega) (by rw [hl.pend]; exact Nat.zero_le _)).mono ?_
    rintro e W' ⟨rfl, F6, G6, hd6, hx6, hy6, ho6, hl6⟩
    rw [hap.1] at hl6 ⊢
    rw [if_pos rfl, show decide ((0 : Int) ≠ 0) = false by decide] at hl6
    exact ⟨_, rfl, .inl ⟨rfl, F6, _, _, hd6, tight hl6, hx6, ext_tight hy6, hap.2, ho6⟩⟩
  · refine (append_full g dg 8 t fs A2 m c2 G W hlog (by omega) (by omega) hus (by omega)).mono ?_
    rintro e W' ⟨rfl, hb6⟩
    exact ⟨_, rfl, .inr ⟨by decide, F, G, d, hd.below hb6, log_below hlog hb6, Ext.refl _ _ _, Ext.refl _ _ _, hl, off_of_below hb6⟩⟩
theorem chk_nx {g dg t : Nat} {fs : List (List UInt8)} {W : World} {F G : Nat → Prop} {d : DM} (hd : Dk W F dg d) (hlog : Log W G g dg 8 t fs false) (hl : Lies d t 8 fs) (ht : t ≤ 42) (A2 : Option Addr) (m c2 : Nat) (b : List UInt8) (hby : By W A2 m c2 b) (hbl : b.length = m) (hm : m ≤ 400) :
    Calls Try.prog 17 #[.pointer (some ⟨g, 0, none⟩), .slice A2 m c2] W fun e W' => ∃ v, e = .returned (.int .i64 v) ∧ ((v = 0 ∧ Nxt W W' F G dg g (t + 1) [b]) ∨ (v ≠ 0 ∧ Nxt W W' F G dg g t fs)) := by
  by_cases hroom : sects m ≤ 8
  · have hap := check_lies hl (b := b) (by omega) (by omega) (by rw [hbl]; exact hroom)
    refine (check_ok g dg 8 t fs A2 m c2 b d F G W hlog hd hby.sl (by omega) (by omega) (by omega) hroom (by rw [hl.pend]; exact Nat.zero_le _)).mono ?_
    rintro e W' ⟨rfl, F6, G6, hd6, hx6, hy6, ho6, hl6⟩
    rw [hap.1] at hl6 ⊢
    rw [if_pos rfl, if_pos rfl, show decide ((0 : Int) ≠ 0) = false by decide] at hl6
    exact ⟨_, rfl, .inl ⟨rfl, F6, _, _, hd6, tight hl6, hx6, ext_tight hy6, hap.2, ho6⟩⟩
  · refine (check_full g dg 8 t fs A2 m c2 G W hlog (by omega) (by omega)).mono ?_
    rintro e W' ⟨rfl, hb6⟩
    exact ⟨_, rfl, .inr ⟨by decide, F, G, d, hd.below hb6, log_below hlog hb6, Ext.refl _ _ _, Ext.refl _ _ _, hl, off_of_below hb6⟩⟩
/-- a log, the place of what is thought to be told, and the blocks N of that -/
structure KP (w1 : World) (dg g t bn : Nat) (fs : List (List UInt8)) (N : Nat → Prop) (c : List Value) (W : World) : Prop where
  st : ∃ F G d, Dk W F dg d ∧ Log W G g dg 8 t fs false ∧ (∀ k, F k → w1.heap.size ≤ k) ∧ (∀ k, G k → w1.heap.size ≤ k ∧ k < W.heap.size) ∧ Lies d t 8 fs ∧ (∀ k, N k → ¬ F k ∧ ¬ G k ∧ k < W.heap.size)
  row : Row W bn 60 c
  nb : N bn
  hb : Below w1.heap.size w1 W
  b1 : w1.heap.size ≤ bn
  nlo : ∀ k, N k → w1.heap.size ≤ k
theorem KP.below {w1 W W' : World} {dg g t bn : Nat} {fs : List (List UInt8)} {N : Nat → Prop} {c : List Value} (h : KP w1 dg g t bn fs N c W) (hb : Below W.heap.size W W') : KP w1 dg g t bn fs N c W' := by
  obtain ⟨⟨F, G, d, h1, h2, h3, h4, h5, h9⟩, q1, q2, q3, q4, q5⟩ := h
  exact ⟨⟨F, G, d, h1.below hb, log_below h2 hb, h3, fun k hk => ⟨(h4 k hk).1, Nat.lt_of_lt_of_le (h4 k hk).2 hb.size⟩, h5, fun k hk => ⟨(h9 k hk).1, (h9 k hk).2.1, Nat.lt_of_lt_of_le (h9 k hk).2.2 hb.size⟩⟩, q1.below hb q1.lt, q2, q3.trans (hb.mono q3.size), q4, q5⟩
/-- between two ops: the log tells fs, what is thought is fsS -/
def KJ (w1 : World) (dg g r t bn : Nat) (fs fsS : List (List UInt8)) (W : World) : Prop :=
  ∃ N As ns cs Al nl cl, KP w1 dg g t bn fs N (scs As ns cs Al nl cl) W ∧ StN W N (.agg (scs As ns cs Al nl cl).toArray) (fsS.getD 0 []) (fsS.drop 1) ∧ t ≤ r ∧ fs.length ≤ r + 1 ∧ fsS.length ≤ r + 1 ∧ fs ≠ []
theorem KJ.below {w1 W W' : World} {dg g r t bn : Nat} {fs fsS : List (List UInt8)} (h : KJ w1 dg g r t bn fs fsS W) (hb : Below W.heap.size W W') : KJ w1 dg g r t bn fs fsS W' := by
  obtain ⟨N, As, ns, cs, Al, nl, cl, h1, h2, h3⟩ := h
  exact ⟨N, As, ns, cs, Al, nl, cl, h1.below hb, h2.below hb, h3⟩
theorem KJ.hb {w1 W : World} {dg g r t bn : Nat} {fs fsS : List (List UInt8)} (h : KJ w1 dg g r t bn fs fsS W) : Below w1.heap.size w1 W := by
  obtain ⟨N, As, ns, cs, Al, nl, cl, h1, h2, h3⟩ := h
  exact h1.hb
theorem KJ.more {w1 W : World} {dg g r r' t bn : Nat} {fs fsS : List (List UInt8)} (h : KJ w1 dg g r t bn fs fsS W) (hr : r ≤ r') : KJ w1 dg g r' t bn fs fsS W := by
  obtain ⟨N, As, ns, cs, Al, nl, cl, h1, h2, h3, h4, h5, h6⟩ := h
  exact ⟨N, As, ns, cs, Al, nl, cl, h1, h2, by omega, by omega, by omega, h6⟩
theorem KP.next {w1 W W' : World} {dg g t' bn : Nat} {fs' : List (List UInt8)} {N : Nat → Prop} {c : List Value} {F G : Nat → Prop} (hN : ∀ k, N k → ¬ F k ∧ ¬ G k ∧ k < W.heap.size) (hF : ∀ k, F k → w1.heap.size ≤ k) (hG : ∀ k, G k → w1.heap.size ≤ k ∧ k < W.heap.size) (q1 : Row W bn 60 c) (q2 : N bn) (q3 : Below w1.heap.size w1 W) (q4 : w1.heap.size ≤ bn) (q5 : ∀ k, N k → w1.heap.size ≤ k)
    (h : Nxt W W' F G dg g t' fs') : KP w1 dg g t' bn fs' N c W' ∧ (∀ k, N k → W'.heap[k]? = W.heap[k]?) := by
  obtain ⟨F', G', d', h1, h2, hx, hy, hl, ho⟩ := h
  have hs : ∀ k, N k → W'.heap[k]? = W.heap[k]? := fun k hk => ho.block k (hN k hk).2.2 (fun h => h.elim (hN k hk).1 (hN k hk).2.1)
  refine ⟨⟨⟨F', fun k => G' k ∧ k < W'.heap.size, d', h1, tight h2, ext_new q3.size hx hF, fun k hk => ⟨ext_new q3.size hy (fun k hk => (hG k hk).1) k hk.1, hk.2⟩, hl, fun k hk => ⟨fun hf => ?_, fun hg => ?_, Nat.lt_of_lt_of_le (hN k hk).2.2 ho.size⟩⟩, (hs bn q2).trans q1, q2, below_off q3 ho (fun k hk => hk.elim (hF k) (fun h => (hG k h).1)), q4, q5⟩, hs⟩
  · rcases hx k hf with h | h
    · exact (hN k hk).1 h
    · have := (hN k hk).2.2; omega
  · rcases hy k hg.1 with h | h
    · exact (hN k hk).2.1 h
    · have := (hN k hk).2.2; omega
/-- as KJ, and block b9 is kept, too -/
def KJ9 (b9 : Nat) (w1 : World) (dg g r t bn : Nat) (fs fsS : List (List UInt8)) (W : World) : Prop :=
  ∃ N As ns cs Al nl cl, KP w1 dg g t bn fs N (scs As ns cs Al nl cl) W ∧ StN W N (.agg (scs As ns cs Al nl cl).toArray) (fsS.getD 0 []) (fsS.drop 1) ∧ t ≤ r ∧ fs.length ≤ r + 1 ∧ fsS.length ≤ r + 1 ∧ fs ≠ [] ∧ N b9
theorem KJ9.below {b9 : Nat} {w1 W W' : World} {dg g r t bn : Nat} {fs fsS : List (List UInt8)} (h : KJ9 b9 w1 dg g r t bn fs fsS W) (hb : Below W.heap.size W W') : KJ9 b9 w1 dg g r t bn fs fsS W' := by
  obtain ⟨N, As, ns, cs, Al, nl, cl, h1, h2, h3⟩ := h
  exact ⟨N, As, ns, cs, Al, nl, cl, h1.below hb, h2.below hb, h3⟩
theorem KJ9.kj {b9 : Nat} {w1 W : World} {dg g r t bn : Nat} {fs fsS : List (List UInt8)} (h : KJ9 b9 w1 dg g r t bn fs fsS W) : KJ w1 dg g r t bn fs fsS W := by
  obtain ⟨N, As, ns, cs, Al, nl, cl, h1, h2, h3, h4, h5, h6, h7⟩ := h
  exact ⟨N, As, ns, cs, Al, nl, cl, h1, h2, h3, h4, h5, h6⟩
theorem KJ.add {b9 : Nat} {w1 W W' : World} {dg g r t bn : Nat} {fs fsS : List (List UInt8)} (h : KJ w1 dg g r t bn fs fsS W) (hb : Below W.heap.size W W') (h9 : W.heap.size ≤ b9) (hl : b9 < W'.heap.size) : KJ9 b9 w1 dg g r t bn fs fsS W' := by
  obtain ⟨N, As, ns, cs, Al, nl, cl, h1, h2, h3, h4, h5, h6⟩ := h
  obtain ⟨⟨F, G, d, a1, a2, a3, a4, a5, a9⟩, q1, q2, q3, q4, q5⟩ := h1
  refine ⟨fun k => N k ∨ k = b9, As, ns, cs, Al, nl, cl, ⟨⟨F, G, d, a1.below hb, log_below a2 hb, a3, fun k hk => ⟨(a4 k hk).1, Nat.lt_of_lt_of_le (a4 k hk).2 hb.size⟩, a5, fun k hk => ?_⟩, q1.below hb q1.lt, .inl q2, q3.trans (hb.mono q3.size), q4, fun k hk => hk.elim (q5 k) (fun e => by have := q3.size; omega)⟩, (h2.below hb).more (fun k hk => .inl hk), h3, h4, h5, h6, .inr rfl⟩
  rcases hk with hk | rfl
  · exact ⟨(a9 k hk).1, (a9 k hk).2.1, Nat.lt_of_lt_of_le (a9 k hk).2.2 hb.size⟩
  · exact ⟨fun hf => by have := a1.1.2 k hf; omega, fun hg => by have := (a4 k hg).2; omega, hl⟩
theorem kj_app {b9 : Nat} {w1 : World} {dg g r t bn : Nat} {fs : List (List UInt8)} {W : World} (h : KJ9 b9 w1 dg g r t bn fs fs W) (hr : r ≤ 40) (A2 : Option Addr) (m c2 : Nat) (b : List UInt8) (hby : By W A2 m c2 b) (hbl : b.length = m) (hm : m ≤ 400) :
    Calls Try.prog 16 #[.pointer (some ⟨g, 0, none⟩), .slice A2 m c2] W fun e W' => ∃ v, e = .returned (.int .i64 v) ∧ W'.heap[b9]? = W.heap[b9]? ∧ ((v = 0 ∧ KJ w1 dg g (r + 1) t bn (fs ++ [b]) fs W') ∨ (v ≠ 0 ∧ KJ w1 dg g (r + 1) t bn fs fs W')) := by
  obtain ⟨N, As, ns, cs, Al, nl, cl, ⟨⟨F, G, d, h1, h2, h3, h4, h5, h9⟩, q1, q2, q3, q4, q5⟩, p2, p3, p4, p5, p6, p7⟩ := h
  refine (app_nx h1 h2 h5 (by omega) A2 m c2 b hby hbl hm).mono ?_
  rintro e W' ⟨v, rfl, hv⟩
  rcases hv with ⟨hv, hn⟩ | ⟨hv, hn⟩
  · obtain ⟨k1, k2⟩ := KP.next h9 h3 h4 q1 q2 q3 q4 q5 hn
    exact ⟨v, rfl, k2 b9 p7, .inl ⟨hv, N, As, ns, cs, Al, nl, cl, k1, p2.keep (fun k hk _ => k2 k hk), by omega, by rw [List.length_append]; simp only [List.length_cons, List.length_nil]; omega, by omega, by simp⟩⟩
  · obtain ⟨k1, k2⟩ := KP.next h9 h3 h4 q1 q2 q3 q4 q5 hn
    exact ⟨v, rfl, k2 b9 p7, .inr ⟨hv, N, As, ns, cs, Al, nl, cl, k1, p2.keep (fun k hk _ => k2 k hk), by omega, by omega, by omega, p6⟩⟩
theorem kj_chk {b9 : Nat} {w1 : World} {dg g r t bn : Nat} {fs : List (List UInt8)} {W : World} (h : KJ9 b9 w1 dg g r t bn fs fs W) (hr : r ≤ 40) (A2 : Option Addr) (m c2 : Nat) (b : List UInt8) (hby : By W A2 m c2 b) (hbl : b.length = m) (hm : m ≤ 400) :
    Calls Try.prog 17 #[.pointer (some ⟨g, 0, none⟩), .slice A2 m c2] W fun e W' => ∃ v, e = .returned (.int .i64 v) ∧ W'.heap[b9]? = W.heap[b9]? ∧ ((v = 0 ∧ KJ w1 dg g (r + 1) (t + 1) bn [b] fs W') ∨ (v ≠ 0 ∧ KJ w1 dg g (r + 1) t bn fs fs W')) := by
  obtain ⟨N, As, ns, cs, Al, nl, cl, ⟨⟨F, G, d, h1, h2, h3, h4, h5, h9⟩, q1, q2, q3, q4, q5⟩, p2, p3, p4, p5, p6, p7⟩ := h
  refine (chk_nx h1 h2 h5 (by omega) A2 m c2 b hby hbl hm).mono ?_
  rintro e W' ⟨v, rfl, hv⟩
  rcases hv with ⟨hv, hn⟩ | ⟨hv, hn⟩
  · obtain ⟨k1, k2⟩ := KP.next h9 h3 h4 q1 q2 q3 q4 q5 hn
    exact ⟨v, rfl, k2 b9 p7, .inl ⟨hv, N, As, ns, cs, Al, nl, cl, k1, p2.keep (fun k hk _ => k2 k hk), by omega, by simp, by omega, by simp⟩⟩
  · obtain ⟨k1, k2⟩ := KP.next h9 h3 h4 q1 q2 q3 q4 q5 hn
    exact ⟨v, rfl, k2 b9 p7, .inr ⟨hv, N, As, ns, cs, Al, nl, cl, k1, p2.keep (fun k hk _ => k2 k hk), by omega, by omega, by omega, p6⟩⟩
theorem stn_grown {W W' : World} {N : Nat → Prop} {v : Value} {b : List UInt8} {fs : List (List UInt8)} {b' : Nat} {cs : List Value} (h : StN W N v b fs) (hr : Row W b' 60 cs) (hg : W.grownBy W' (some b')) : StN W' N v b fs := by
  have hne : ∀ {e : TypeId} {v : Value} {n : Nat} {xs : List Value}, e ≠ 60 → W.ownsRow 0 e 1 v n xs → W'.ownsRow 0 e 1 v n xs := fun {e v n xs} he ho => own_kept ho (fun k hk hlt => hg.block k hlt (fun e2 => by
    obtain ⟨cs', hr'⟩ := own_type ho hk
    have e3 := Option.some.inj e2
    exact he (row_type hr' (e3 ▸ hr))))
  obtain ⟨As, ns, cs', Al, cl, h1, h2, h3, h4, ⟨xs, q1, q2, q3⟩⟩ := h
  exact ⟨As, ns, cs', Al, cl, h1, hne (by decide) h2, h3, h4, ⟨xs, hne (by decide) q1, q2, fun i hi => by
    obtain ⟨Ai, ni, ci, s1, s2, s3, s4⟩ := q3 i hi
    exact ⟨Ai, ni, ci, s1, hne (by decide) s2, s3, s4⟩⟩⟩
/-- what is thought is told anew, and stored -/
theorem kj_aft {w1 W W5 W6 : World} {dg g r t bn : Nat} {fs : List (List UInt8)} {N : Nat → Prop} {c c' : List Value} (h : KP w1 dg g t bn fs N c W) (hb : Below W.heap.size W W5) {As : Option Addr} {ns cs : Nat} {Al : Option Addr} {nl cl : Nat} (hc : c' = scs As ns cs Al nl cl) (hs : StN W5 (N2 W N) (.agg c'.toArray) (fs.getD 0 []) (fs.drop 1)) (hr6 : Row W6 bn 60 c') (hg : W5.grownBy W6 (some bn)) (ht : t ≤ r) (hl : fs.length ≤ r + 1) (hne : fs ≠ []) :
    KJ w1 dg g r t bn fs fs W6 := by
  obtain ⟨⟨F, G, d, a1, a2, a3, a4, a5, a9⟩, q1, q2, q3, q4, q5⟩ := h
  have hr5 : Row W5 bn 60 c := q1.below hb q1.lt
  have hn5 : ∀ k, N2 W N k → ¬ F k ∧ ¬ G k := fun k hk => by
    rcases hk with hk | hk
    · exact ⟨(a9 k hk).1, (a9 k hk).2.1⟩
    · exact ⟨fun hf => by have := a1.1.2 k hf; omega, fun hg => by have := (a4 k hg).2; omega⟩
  have hnb := a9 bn q2
  subst hc
  refine ⟨fun k => N2 W N k ∧ k < W5.heap.size, As, ns, cs, Al, nl, cl, ⟨⟨F, G, d, (a1.below hb).grown hr5 (by decide) (by decide) (by decide) hg, ?_, a3, fun k hk => ⟨(a4 k hk).1, Nat.lt_of_lt_of_le (a4 k hk).2 (Nat.le_trans hb.size hg.size)⟩, a5, fun k hk => ⟨(hn5 k hk.1).1, (hn5 k hk.1).2, Nat.lt_of_lt_of_le hk.2 hg.size⟩⟩, hr6, ⟨.inl q2, hr5.lt⟩, ?_, q4, fun k hk => hk.1.elim (q5 k) (fun h => Nat.le_trans q3.size h)⟩, stn_grown hs.tight hr5 hg, ht, hl, hl, hne⟩
  · exact log_keep (log_below a2 hb) (fun k hk hlt => hg.block k hlt (fun e => by
      have e2 := Option.some.inj e
      exact hnb.2.1 (e2 ▸ hk)))
  · exact (q3.trans (hb.mono q3.size)).grown hg (Nat.le_trans q3.size hb.size) (fun q e => by have := Option.some.inj e; omega)
theorem size_set (W : World) (p : Addr) (v : Value) : (W.setCell p v).heap.size = W.heap.size := by simp [World.setCell]
/-- a cell of a block that was there ahead of all is written -/
theorem KJ.rebase {w1 W : World} {dg g r t bn b3 i : Nat} {fs fsS : List (List UInt8)} {cs : List Value} (h : KJ w1 dg g r t bn fs fsS W) (v : Value) (hr : Row w1 b3 55 cs) : KJ (w1.setCell ⟨b3, i, none⟩ v) dg g r t bn fs fsS (W.setCell ⟨b3, i, none⟩ v) := by
  obtain ⟨N, As, ns, cs', Al, nl, cl, ⟨⟨F, G, d, a1, a2, a3, a4, a5, a9⟩, q1, q2, q3, q4, q5⟩, h2, h3⟩ := h
  have hW : Row W b3 55 cs := hr.below q3 hr.lt
  have hlt := hr.lt
  have hg := grown_setAt W ⟨b3, i, none⟩ v
  have hk : ∀ k, w1.heap.size ≤ k → k < W.heap.size → (W.setCell ⟨b3, i, none⟩ v).heap[k]? = W.heap[k]? := fun k h1 h2 => hg.block k h2 (fun e => by
    have : b3 = k := by first | exact (Option.some.inj e).symm | exact Option.some.inj e
    omega)
  have hs1 := size_set w1 ⟨b3, i, none⟩ v
  have hs := size_set W ⟨b3, i, none⟩ v
  refine ⟨N, As, ns, cs', Al, nl, cl, ⟨⟨F, G, d, a1.grown hW (by decide) (by decide) (by decide) hg, log_keep a2 (fun k hk' hlt' => hk k (a4 k hk').1 hlt'), fun k hf => by rw [hs1]; exact a3 k hf, fun k hf => by rw [hs1, hs]; exact a4 k hf, a5, fun k hn => by rw [hs]; exact a9 k hn⟩, (hk bn q4 q1.lt).trans q1, q2, ?_, by rw [hs1]; exact q4, fun k hn => by rw [hs1]; exact q5 k hn⟩, h2.keep (fun k hn hlt' => hk k (q5 k hn) hlt'), h3⟩
  have e1 : Row (w1.setCell ⟨b3, i, none⟩ v) b3 55 (cs.set i v) := hr.store i v
  have e2 : Row (W.setCell ⟨b3, i, none⟩ v) b3 55 (cs.set i v) := hW.store i v
  refine ⟨q3.os, q3.tape, q3.output, by rw [hs1, hs]; exact q3.size, fun k hlt' => ?_⟩
  rw [hs1] at hlt'
  by_cases hb : k = b3
  · rw [hb]; exact (show _ = _ from e2).trans (show _ = _ from e1).symm
  · have g1 := grown_setAt w1 ⟨b3, i, none⟩ v
    have x1 := g1.block k hlt' (fun e => hb (by first | exact (Option.some.inj e).symm | exact Option.some.inj e))
    have x2 := hg.block k (Nat.lt_of_lt_of_le hlt' q3.size) (fun e => hb (by first | exact (Option.some.inj e).symm | exact Option.some.inj e))
    exact x2.trans ((q3.block k hlt').trans x1.symm)
end Go.Proofs.Yteemdjamgbbjhaa.Wl
