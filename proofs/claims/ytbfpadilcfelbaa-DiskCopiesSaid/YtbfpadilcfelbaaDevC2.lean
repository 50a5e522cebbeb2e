/-
  The contract of Crash.
-/
import Derived.Test.YtbfpadilcfelbaaDevC1
import Derived.Deep.RegionHeld3
namespace Go.Proofs.Ytbfpadilcfelbaa.Dsk
open Go.RowKit Go.Shelf Go.Proofs.Ytbfpadilcfelbaa.Wd

attribute [local go_sem] Oper.semAt_some

/-- the sectors behind these writes were taken back, one by one -/
def backF (s : List (List UInt8)) (l : List (Int × List UInt8 × List UInt8)) : List (List UInt8) := l.foldl (fun s p => s.set p.1.toNat p.2.1) s
theorem backF_snoc (s : List (List UInt8)) (l : List (Int × List UInt8 × List UInt8)) (p : Int × List UInt8 × List UInt8) : backF s (l ++ [p]) = (backF s l).set p.1.toNat p.2.1 := by simp [backF]
theorem backF_rev (s : List (List UInt8)) (l : List (Int × List UInt8 × List UInt8)) : backF s l.reverse = backM s l := by
  induction l with
  | nil => rfl
  | cons p ps ih => rw [List.reverse_cons, backF_snoc, ih]; rfl
theorem backF_len (l : List (Int × List UInt8 × List UInt8)) : ∀ s, (backF s l).length = s.length := by
  induction l with
  | nil => intro s; rfl
  | cons p ps ih => intro s; exact (ih _).trans (by simp)
/-- what the rounds of Crash hold: the disk, its variable, whatever lies outside -/
def CI (w : World) (F : Nat → Prop) (g gs c b2 : Nat) (A : Option Addr) (d : DM) (W : World) : Prop := DskAt W F g gs A c d ∧ W.cell? ⟨b2, 0, none⟩ = some (.pointer (some ⟨g, 0, none⟩)) ∧ Off F w W
theorem row_kept {W W' : World} {g : Nat} {t : TypeId} {cs : List Value} {row : Option Nat} (h : Row W g t cs) (hg : W.grownBy W' row) (hr : ∀ r, row = some r → ∃ o : Obj, W.heap[r]? = some o ∧ o.isCells = false) : Row W' g t cs :=
  h.grown hg (fun e => by
    obtain ⟨o, ho, hc⟩ := hr g e.symm
    rw [show W.heap[g]? = _ from h] at ho
    cases ho
    cases hc)
theorem CI.own {w : World} {F : Nat → Prop} {g gs c b2 : Nat} {A : Option Addr} {d : DM} {W W' : World} {row : Option Nat} (h : CI w F g gs c b2 A d W) (hg : W.grownBy W' row) (hr : ∀ r, row = some r → w.heap.size ≤ r ∧ ∃ o : Obj, W.heap[r]? = some o ∧ o.isCells = false) : CI w F g gs c b2 A d W' := by
  obtain ⟨h1, h2, h3⟩ := h
  have hr' := fun r e => (hr r e).2
  refine ⟨⟨h1.fg, h1.fs, h1.ne, h1.own, row_kept h1.row hg hr', row_kept h1.secs hg hr', ?_, h1.good⟩, cell_kept h2 hg hr', h3.grown hg (fun r e => .inr (hr r e).1)⟩
  rcases h1.pend with ⟨hl, hv | ⟨gp, cap, cur, hv, hb, hgp, hrest⟩⟩
  · exact ⟨hl, .inl hv⟩
  · refine ⟨hl, .inr ⟨gp, cap, cur, hv, hb, ?_, hrest⟩⟩
    have h0 : Row W gp 77 cur.toList := by show _ = _; simpa using hgp
    have h1 := row_kept h0 hg hr'
    have h2 : W'.heap[gp]? = _ := h1
    simpa using h2
/-- what an assignment of the loop lays: the write in a block of its own -/
def CA (F : Nat → Prop) (B b2 : Nat) (T : Nat → Value → Value → Array Value) {m : Nat} (x : IWr m) (a' : Act) (W : World) : Prop :=
  ∃ b6, ¬ F b6 ∧ B ≤ b6 ∧ b6 ≠ b2 ∧ Row W b6 77 (pcs x.1.2) ∧ a' = { tmps := T b6 (.int .i64 x.1.1) (.agg (pcs x.1.2).toArray), defers := [] }
theorem CI.below {w : World} {F : Nat → Prop} {g gs c b2 : Nat} {A : Option Addr} {d : DM} {W W' : World} (h : CI w F g gs c b2 A d W) (hb : Below W.heap.size W W') : CI w F g gs c b2 A d W' :=
  ⟨h.1.below hb, (hb.cell (p := ⟨b2, 0, none⟩) (World.block_lt_of_cell? W _ h.2.1)).trans h.2.1, h.2.2.trans (Ext.refl _ _ _) (Off.of_below hb)⟩
theorem DskAt.drew {w : World} {F : Nat → Prop} {g gs c : Nat} {A : Option Addr} {d : DM} (h : DskAt w F g gs A c d) : DskAt w.drew F g gs A c d := ⟨h.fg, h.fs, h.ne, h.own, h.row, h.secs, h.pend, h.good⟩
theorem size68 : (Try.prog.info? 62).map (·.size) = some 2 := by kernel_rfl
theorem nq (B : Nat) (Kp : World → World → Prop) {α : Type} (I : List α → World → Prop) (Ix : Code → List α → World → Prop) (xs : List α) (W : World) : ¬ LetsOut (ownPostG B Kp I Ix xs W) := fun ⟨_, _, h⟩ => h

set_option maxRecDepth 100000 in
set_option maxHeartbeats 4000000 in
theorem crash_any0 (g : Nat) (d : DM) (F : Nat → Prop) (A' : Option Addr) (n' c' : Nat) (keep : List Bool) (w : World) (h : Disk w F g d) (hp : d.pend.length ≤ 1000000) (hk : keep.length = n') (hv : Vs w w.heap.size A' (bools keep)) (hF : 0 < keep.length → ∀ b o s, A' = some ⟨b, o, s⟩ → ¬ F b) :
    Calls Try.prog 20 #[.pointer (some ⟨g, 0, none⟩), .slice A' n' c'] w fun e w' => e = .returned (.int .i64 0) ∧ Goes F w g (d.crashM keep) w' := by
  have hdisk := h
  obtain ⟨⟨gs, A, c, h⟩, hlow⟩ := h
  have hF0 : ¬ F w.heap.size := fun hf => by have := hlow _ hf; omega
  have hF1 : ¬ F (w.heap.size + 1) := fun hf => by have := hlow _ hf; omega
  have hb1 : Below w.heap.size w (w.alloc (.cells #[.pointer (some ⟨g, 0, none⟩)] 24)) := (Below.refl _ _).alloc (Nat.le_refl _) _
  have hw1 : Row (w.alloc (.cells #[.pointer (some ⟨g, 0, none⟩)] 24)) w.heap.size 24 [.pointer (some ⟨g, 0, none⟩)] := Row.new w _ _
  have hs1 : (w.alloc (.cells #[.pointer (some ⟨g, 0, none⟩)] 24)).heap.size = w.heap.size + 1 := by simp
  have h1 := h.below hb1
  have c1 : (w.alloc (.cells #[.pointer (some ⟨g, 0, none⟩)] 24)).cell? ⟨g, 1, none⟩ = some (.slice A d.pend.length c) := h1.row.cell 1
  have HV := Lib.hid hv
  have HF := Lib.hid hF
  have HK := Lib.hid hk
  have HDK := Lib.hid hdisk
  have HB1 := Lib.hid hb1
  have hz := zero81v
  clear hv hF hk hdisk h hb1
  refine (callsIn_wide (n := 9)).1 ?_
  refine callsIn_of_wp_marks Try.func20 rfl trivial ?_ rfl
  refine wpIn_wide.2 ?_
  simp only [Try.ntmps20, List.size_toArray, List.length_cons, List.length_nil, Nat.reduceAdd, Nat.reduceSub, Array.replicate_succ, Array.replicate_zero, List.push_toArray, List.append_toArray, List.nil_append, List.cons_append]
  go_wp2_with fail
  refine (backward_any A d.pend.length c _).mono ?_
  rintro e w2 ⟨rfl, hw2⟩
  have hb2 : Below (w.heap.size + 1) (w.alloc (.cells #[.pointer (some ⟨g, 0, none⟩)] 24)) w2 := by
    rw [hw2]
    exact (Below.refl _ _).alloc (by rw [hs1]; exact Nat.le_refl _) _
  have hr2 : Row w2 w.heap.size 24 [.pointer (some ⟨g, 0, none⟩)] := hw1.below hb2 (by omega)
  have hrB : Row w2 (w.heap.size + 1) 60 [.slice A d.pend.length c] := by
    have := Row.new (w.alloc (.cells #[.pointer (some ⟨g, 0, none⟩)] 24)) 60 [.slice A d.pend.length c]
    rw [hs1] at this
    rw [hw2]; exact this
  have h2 : DskAt w2 F g gs A c d := h1.below (by rw [hs1]; exact hb2)
  have hs2 : w2.heap.size = w.heap.size + 1 + 1 := by rw [hw2]; simp
  have hoff2 : Off F w w2 := Off.of_below (HB1.out.trans (hb2.mono (by omega)))
  clear hw2 hw1 c1 h1
  go_wp2_with fail
  have hgood := h2.good
  obtain ⟨sq, hsq, hrev⟩ := back_seq (m := d.sec.length) d.pend (fun p hp => hgood.pend p hp) hgood.pos
  have hown : ∀ k, A = some ⟨k, 0, none⟩ → F k := fun k e => (h2.own k (by rw [e]; rfl)).1
  have hKlt : ∀ k, (k = w.heap.size + 1 ∨ A = some ⟨k, 0, none⟩) → k < w2.heap.size ∧ k ≠ gs := fun k hk => by
    rcases hk with rfl | e
    · have := hlow gs h2.fs
      exact ⟨by omega, by omega⟩
    · have h3 := hlow k (hown k e)
      exact ⟨by omega, (h2.own k (by rw [e]; rfl)).2.2⟩
  have hcB : w2.cell? ⟨w.heap.size + 1, 0, none⟩ = some (.slice A d.pend.length c) := hrB.cell 0
  have hc2 : w2.cell? ⟨w.heap.size, 0, none⟩ = some (.pointer (some ⟨g, 0, none⟩)) := hr2.cell 0
  refine (wpIn_wide (n := 9)).1 ?_
  refine wpIn_rangeFunc_ownH (F := Fence.wide) (n := 9) rfl (by omega) (gf := 49) (lb := #[.pointer (some ⟨w.heap.size + 1, 0, none⟩)]) rfl trivial (enters_of Try.func49 (by kernel_rfl) rfl)
    (encs := encW (m := d.sec.length)) (Kp := KeepB (fun k => k = w.heap.size + 1 ∨ A = some ⟨k, 0, none⟩)) (S := fun xs => xs.map (fun x => x.1.2) = d.pend.reverse) (Sp := fun _ => True) (N := d.pend.length) (w0 := w2) ?hseq (fun h k => h.trans k) ?hKb (Below.refl _ _) (fun _ => rfl)
    (fun pre W => CI w F g gs c w.heap.size A { d with sec := backF d.sec (pre.map fun x => x.1.2) } W ∧ w2.heap.size ≤ W.heap.size) (fun _ _ _ => False) (fun s X Y row hs hg hr => ⟨CI.own hs.1 hg (fun r e => ⟨by have := (hr r e).1; omega, (hr r e).2⟩), Nat.le_trans hs.2 hg.size⟩) (fun _ _ _ _ _ h _ _ => h) ⟨⟨h2, hc2, hoff2⟩, Nat.le_refl _⟩ (CA F w2.heap.size w.heap.size (fun b6 v16 v17 => #[.pointer (some ⟨g, 0, none⟩), .slice A' n' c', .pointer (some ⟨w.heap.size, 0, none⟩), undef, .int .i64 0, undef, .pointer (some ⟨b6, 0, none⟩), undef, undef, .pointer (some ⟨g, 0, none⟩), .bool false, .pointer (some ⟨g, 0, none⟩), .pointer (some ⟨g, 0, none⟩), .pointer (some ⟨g, 1, none⟩), .slice A d.pend.length c, .func (.func 49) #[] #[.pointer (some ⟨w.heap.size + 1, 0, none⟩)], v16, v17, undef, undef, undef, undef, undef, undef, undef, undef, undef, undef, undef, undef, undef, undef, undef, undef, undef, undef, undef, undef, undef, undef, undef, undef, undef, undef, undef, undef, undef, undef, undef, undef, undef, undef, undef, undef, undef, undef, undef, undef, undef, undef, undef, undef, undef, undef, undef, undef, undef, undef, undef, undef, undef])) ?hAx ?assign ?body ?done ?stop
  case hseq =>
    intro l J Jx W hW _ _ hY h0
    refine (back_in l (w.heap.size + 1) d.pend.length c d.sec.length A d.pend hp 8 (by omega) sq hsq (fun k => k = w.heap.size + 1 ∨ A = some ⟨k, 0, none⟩) (.inl rfl) J Jx hY W ((hW.cell (p := ⟨w.heap.size + 1, 0, none⟩) (by show w.heap.size + 1 < _; omega)).trans hcB) (fun k hk => ?_) h0).mono ?_
    · obtain ⟨gp, e, hrg, hlt, _, _⟩ := h2.pend_range hk
      exact ⟨gp, e, .inr e, range_below hrg hW hlt⟩
    · rintro e W' ⟨he, ⟨ys, rfl, hj⟩ | ⟨pre, _, hj⟩⟩
      · exact ⟨he, .inl ⟨_, hrev, hj⟩⟩
      · exact ⟨he, .inr ⟨pre, trivial, hj⟩⟩
  case hKb =>
    intro W l o o' hl _ _ _ k hk
    exact World.putObj_heap_other (by have := (hKlt k hk).1; omega)
  case hAx =>
    rintro x a' _ X Y row ⟨b6, n1, n2, n3, r, e⟩ hg hr
    exact ⟨b6, n1, n2, n3, row_kept r hg (fun q e => (hr q e).2), e⟩
  case assign =>
    intro l pre x W K hI hK
    have hok := x.2
    have h129 : (pcs x.1.2).length = 129 := pcs_len _ hok.2.2.1 hok.2.2.2
    have HRN := Lib.hid (Row.new W 77 (pcs (0, nought, nought)))
    have HFT : Hid (0 + (pcs x.1.2).length ≤ (pcs (0, nought, nought)).length) := (show _ ≤ _ by rw [h129]; exact Nat.le_refl _)
    have HS : Hid ((Try.prog.info? 77).map (·.size) = some (pcs x.1.2).length) := (show _ = _ by rw [h129]; exact size81)
    have HI := Lib.hid hI.1
    have hWsz := hI.2
    unfold encW
    clear hI
    gi_wp2_with (first
      | (with_reducible refine wpListIn_store_in (op := ⟨none, _, _, _, _, _⟩) ?_ 77 (.tmp 6) (.tmp 17) ?_ W.heap.size 0 (pcs x.1.2) ?_ ?_ 77 (pcs (0, nought, nought)) ?_ HFT.out (pcs_one _) HS.out ?_))
    all_goals try (first | rfl | exact HRN.out)
    intro W3 hr3 hg3
    rw [splice_all (pcs (0, nought, nought)) (pcs x.1.2) (by rw [h129]; rfl)] at hr3
    have hb3 : Below W.heap.size W W3 := ((Below.refl _ _).alloc (Nat.le_refl _) _).grown hg3 (by simp) (fun j e => Nat.le_of_eq (Option.some.inj e))
    have hsW : w2.heap.size ≤ W.heap.size := hWsz
    refine hK _ W3 ⟨hb3.size, fun k o _ hk _ => (hb3.block k (Array.getElem?_eq_some_iff.1 hk).1).trans hk⟩ (fun k hk => hb3.block k (by have := (hKlt k hk).1; omega)) ⟨HI.out.below hb3, Nat.le_trans hsW hb3.size⟩ ⟨W.heap.size, fun hf => by have := hlow _ hf; omega, hsW, by omega, hr3, rfl⟩
  case body =>
    rintro l pre x a' W hl ⟨r, hr⟩ hI ⟨b6, n1, n2, n3, r6, rfl⟩ hlt
    obtain ⟨⟨hd, hbx, hoff⟩, hWsz⟩ := hI
    obtain ⟨⟨ix, p⟩, hok⟩ := x
    obtain ⟨sn, hsn⟩ := Int.eq_ofNat_of_zero_le hok.1
    have hp0 : p.1 = (sn : Int) := hsn
    have hlen : (backF d.sec (pre.map fun x => x.1.2)).length = d.sec.length := backF_len _ _
    have hsl : sn < d.sec.length := by have := hok.2.1; omega
    have hL64 : p.2.1.length = 64 := hok.2.2.1
    have k0 : W.cell? ⟨g, 0, none⟩ = some (.slice (some ⟨gs, 0, none⟩) d.sec.length d.sec.length) := by
      have := hd.row.cell 0
      simp only [dcs, hlen] at this
      exact this
    have k6 : W.cell? ⟨b6, 0, none⟩ = some (.int .i64 (sn : Int)) := by rw [← hp0]; exact r6.cell 0
    have hrg6 : W.rangeAt b6 1 (bv p.2.1) := Row.range r6 fun j v hj => by
      rw [Nat.add_comm]
      have hjl : j < (bv p.2.1).length := (List.getElem?_eq_some_iff.1 hj).1
      show (pcs p)[j + 1]? = some v
      simp only [pcs, List.getElem?_cons_succ]
      rw [List.getElem?_append_left hjl]; exact hj
    have HD := Lib.hid hd
    have HSZ : Hid ((Try.prog.info? 39).map (·.size) = some (bv p.2.1).length) := (show _ = _ by rw [bv_length, hL64]; exact size39)
    have HLW := Lib.hid hL64
    have HFI : Hid (sn * 64 + 64 ≤ (backF d.sec (pre.map fun x => x.1.2)).length * 64) := (show _ ≤ _ by rw [hlen]; omega)
    have hbF : b6 ≠ gs := fun e => n1 (e ▸ hd.fs)
    have hgg : g ≠ gs := hd.ne
    have hwg : w.heap.size ≠ gs := fun e => hF0 (e ▸ hd.fs)
    have hsi : (sn : Int) < (d.sec.length : Int) := by omega
    gi_wp2_with fail
    refine region_in (S := fun w' : World => w'.cell? ⟨w.heap.size, 0, none⟩ = some (.pointer (some ⟨g, 0, none⟩)) ∧ w'.cell? ⟨g, 0, none⟩ = some (.slice (some ⟨gs, 0, none⟩) d.sec.length d.sec.length) ∧ w'.cell? ⟨b6, 0, none⟩ = some (.int .i64 (sn : Int)) ∧ w'.rangeAt b6 1 (bv p.2.1)) (by kernel_rfl) (by rfl) (fun ⟨_, _, h⟩ => h) ⟨hbx, k0, k6, hrg6⟩ (fun hHeld => ?_)
    refine wpAnyH_take (i := 0) (oi := ⟨some 18, _, _, _, _, _⟩) (v := ?v0a) rfl (by kernel_rfl) (by kernel_rfl) (by kernel_rfl) (fun _ _ _ h => h) (Or.inl ⟨by rfl, ?y0a⟩) hHeld ?r0a
    case y0a =>
      rintro w' ⟨q0, q1, q2, q3⟩
      go_simp
      try with_reducible rfl
    try simp only [Act.put, List.setIfInBounds_toArray, List.set_cons_zero, List.set_cons_succ]
    refine wpAnyH_take (i := 1) (oi := ⟨some 19, _, _, _, _, _⟩) (v := ?v1a) rfl (by kernel_rfl) (by kernel_rfl) (by kernel_rfl) (fun _ _ _ h => h) (Or.inl ⟨by rfl, ?y1a⟩) hHeld ?r1a
    case y1a =>
      rintro w' ⟨q0, q1, q2, q3⟩
      go_simp
      try with_reducible rfl
    try simp only [Act.put, List.setIfInBounds_toArray, List.set_cons_zero, List.set_cons_succ]
    refine wpAnyH_take (i := 2) (oi := ⟨some 20, _, _, _, _, _⟩) (v := ?v2a) rfl (by kernel_rfl) (by kernel_rfl) (by kernel_rfl) (fun _ _ _ h => h) (Or.inl ⟨by rfl, ?y2a⟩) hHeld ?r2a
    case y2a =>
      rintro w' ⟨q0, q1, q2, q3⟩
      go_simp
      try with_reducible rfl
    try simp only [Act.put, List.setIfInBounds_toArray, List.set_cons_zero, List.set_cons_succ]
    refine wpAnyH_take (i := 3) (oi := ⟨some 21, _, _, _, _, _⟩) (v := ?v3a) rfl (by kernel_rfl) (by kernel_rfl) (by kernel_rfl) (fun _ _ _ h => h) (Or.inl ⟨by rfl, ?y3a⟩) hHeld ?r3a
    case y3a =>
      rintro w' ⟨q0, q1, q2, q3⟩
      go_simp
      try with_reducible rfl
    try simp only [Act.put, List.setIfInBounds_toArray, List.set_cons_zero, List.set_cons_succ]
    refine wpAnyH_take (i := 4) (oi := ⟨some 22, _, _, _, _, _⟩) (v := ?v4a) rfl (by kernel_rfl) (by kernel_rfl) (by kernel_rfl) (fun _ _ _ h => h) (Or.inl ⟨by rfl, ?y4a⟩) hHeld ?r4a
    case y4a =>
      rintro w' ⟨q0, q1, q2, q3⟩
      go_simp
      try with_reducible rfl
    try simp only [Act.put, List.setIfInBounds_toArray, List.set_cons_zero, List.set_cons_succ]
    refine wpAnyH_take (i := 5) (oi := ⟨some 23, _, _, _, _, _⟩) (v := ?v5a) rfl (by kernel_rfl) (by kernel_rfl) (by kernel_rfl) (fun _ _ _ h => h) (Or.inl ⟨by rfl, ?y5a⟩) hHeld ?r5a
    case y5a =>
      rintro w' ⟨q0, q1, q2, q3⟩
      go_simp
      try with_reducible rfl
    try simp only [Act.put, List.setIfInBounds_toArray, List.set_cons_zero, List.set_cons_succ]
    refine wpAnyH_take (i := 6) (oi := ⟨some 24, _, _, _, _, _⟩) (v := ?v6a) rfl (by kernel_rfl) (by kernel_rfl) (by kernel_rfl) (fun _ _ _ h => h) (Or.inl ⟨by rfl, ?y6a⟩) hHeld ?r6a
    case y6a =>
      rintro w' ⟨q0, q1, q2, q3⟩
      go_simp
      try with_reducible rfl
    try simp only [Act.put, List.setIfInBounds_toArray, List.set_cons_zero, List.set_cons_succ]
    refine wpAnyH_take (i := 7) (oi := ⟨some 25, _, _, _, _, _⟩) rfl (by kernel_rfl) (by kernel_rfl) (by kernel_rfl) (fun _ _ _ h => h) (yieldsIf_load_mid (by rfl) 39 (.tmp 24) rfl b6 1 ?x7a (bv p.2.1) _ (fun _ hS => hS.2.2.2) Try.underlying39 rfl HSZ.out) hHeld ?r7a
    case x7a => first | rfl | (simp [Act.eval, go_sem]; done)
    try simp only [Act.put, List.setIfInBounds_toArray, List.set_cons_zero, List.set_cons_succ]
    refine wpAnyH_take (i := 8) (oi := ⟨some 26, _, _, _, _, _⟩) (v := ?v8a) rfl (by kernel_rfl) (by kernel_rfl) (by kernel_rfl) (fun _ _ _ h => h) (Or.inl ⟨by rfl, ?y8a⟩) hHeld ?r8a
    case y8a =>
      rintro w' ⟨q0, q1, q2, q3⟩
      go_simp
      try with_reducible rfl
    try simp only [Act.put, List.setIfInBounds_toArray, List.set_cons_zero, List.set_cons_succ]
    refine wpAnyH_ready (rs := [9]) (by kernel_rfl) (by simp) ?_
    refine AllReadyH.cons rfl (fun K hK => ?_) AllReadyH.nil
    rw [if_pos (by rfl)]
    refine wp_store_mid 39 (.tmp 26) (.tmp 25) rfl gs (sn * 64) (bv p.2.1).toArray ?_ rfl ?_ ?_ (all_oneCell_toArray bv_one) ?_
    · first | rfl | (simp [Act.eval]; done)
    · rw [List.size_toArray]; exact Row.there HD.out.secs.drew (by rw [bv_length, bv_length, HLW.out, flat_len _ HD.out.good.sec]; exact HFI.out)
    · rw [List.size_toArray]; exact HSZ.out
    rw [List.toList_toArray]
    obtain ⟨hd3, ho3⟩ := sec_set (i := sn) HD.out (by show sn < (backF d.sec (pre.map fun x => x.1.2)).length; rw [hlen]; exact hsl) hL64
    have hg3 := grown_setCells gs (bv p.2.1) (sn * 64) W.drew
    generalize W.drew.setCells gs (sn * 64) (bv p.2.1) = W4 at hd3 ho3 hg3 ⊢
    have hsame : ∀ k, k < W.heap.size → k ≠ gs → W4.heap[k]? = W.heap[k]? := fun k hk hne => hg3.block k hk (fun e => hne (Option.some.inj e))
    have hcell : ∀ (bb o : Nat) (v : Value), bb ≠ gs → W.cell? ⟨bb, o, none⟩ = some v → W4.cell? ⟨bb, o, none⟩ = some v := fun bb o v hne hc => (World.cell?_of_block (a := ⟨bb, o, none⟩) (hsame bb (World.block_lt_of_cell? W _ hc) hne)).trans hc
    refine hK _ _ ⟨hcell _ _ _ hwg hbx, hcell _ _ _ hgg k0, hcell _ _ _ hbF k6, fun j v hj => hcell _ _ _ hbF (hrg6 j v hj)⟩ (fun _ => wpAnyH_done (by kernel_rfl) ?_ _)
    refine ⟨⟨ho3.size, fun k o hB hk _ => (hsame k (Array.getElem?_eq_some_iff.1 hk).1 (fun e => by have := hlow gs hd.fs; omega)).trans hk⟩, fun k hk => hsame k (Nat.lt_of_lt_of_le (hKlt k hk).1 hWsz) (hKlt k hk).2, ⟨?_, hcell _ _ _ hwg hbx, hoff.trans (Ext.refl _ _ _) ho3⟩, Nat.le_trans hWsz ho3.size⟩
    have e9 : backF d.sec ((pre ++ [(⟨(ix, p), hok⟩ : IWr d.sec.length)]).map fun x => x.1.2) = (backF d.sec (pre.map fun x => x.1.2)).set sn p.2.1 := by
      rw [List.map_append, List.map_cons, List.map_nil, backF_snoc]
      show (backF d.sec _).set p.1.toNat p.2.1 = _
      rw [hp0]; rfl
    rw [e9]
    exact hd3
  case done =>
    intro D xs W hD hS hI hK
    obtain ⟨⟨hd, hbx, hoff⟩, hWsz⟩ := hI
    have hsec : backF d.sec (xs.map fun x => x.1.2) = backM d.sec d.pend := by rw [hS, backF_rev]
    rw [hsec] at hd
    have hlen0 : (backM d.sec d.pend).length = d.sec.length := by rw [← backF_rev]; exact backF_len _ _
    obtain ⟨s0, hs0⟩ : ∃ s0, s0 = backM d.sec d.pend := ⟨_, rfl⟩
    rw [← hs0] at hd hlen0
    obtain ⟨n, hn⟩ : ∃ n, n = d.pend.length := ⟨_, rfl⟩
    have c1 : W.cell? ⟨g, 1, none⟩ = some (.slice A n c) := by rw [hn]; exact hd.row.cell 1
    have hDW : D < W.heap.size := (Array.getElem?_eq_some_iff.1 hK).1
    have hDw : w.heap.size ≤ D := by omega
    have hDF : ¬ F D := fun hf => by have := hlow D hf; omega
    have HI0 : Hid (CI w F g gs c w.heap.size A { d with sec := liveF s0 d.pend keep 0 } W ∧ Off F W W) := (show _ ∧ _ from ⟨⟨hd, hbx, hoff⟩, Off.refl _ _⟩)
    have HKD := Lib.hid hK
    have HN := Lib.hid hn
    have HS0 := Lib.hid hs0
    have HL0 := Lib.hid hlen0
    have HGD := Lib.hid hgood
    have HROFF := Lib.hid hoff
    rw [← hn] at hp ⊢
    have HPF := Lib.hid (fun k (hk : k < d.pend.length) => (hd.pend_range hk))
    clear hsec hs0 hK hd hgood hsq hrev hKlt hcB hc2 h2 hr2 hrB hs2 hb2 hoff2 hlen0 hoff hS
    have HOWN := Lib.hid hown
    clear hown hn
    go_wp2
    go_loopw [32] (fun i wr => ∃ k : Nat, k ≤ n ∧ i = .int .i64 k ∧ Hid (CI w F g gs c w.heap.size A { d with sec := liveF s0 d.pend keep k } wr ∧ Off F W wr)) (fun i _ => n - (intOf i).toNat)
    case atStart => exact ⟨0, by omega, rfl, HI0⟩
    case round =>
      obtain ⟨k, hk, rfl, HI⟩ := hrel
      rename World => wr
      by_cases hlt : k < n
      · have hkp : k < d.pend.length := by rw [← HN.out]; exact hlt
        obtain ⟨⟨hd, hbx, hoff⟩, hoffW⟩ := HI.out
        obtain ⟨gp, rfl, hrg, hgp, hFgp, _⟩ := hd.pend_range hkp
        have hrg' : wr.rangeAt gp (k * 129) (pcs (d.pend.getD k noWrite)) := hrg
        have hok : OkW d.sec.length (d.pend.getD k noWrite) := HGD.out.pend _ (by rw [List.getD_eq_getElem?_getD, List.getElem?_eq_getElem hkp]; exact List.getElem_mem hkp)
        have hsucc := liveF_succ s0 d.pend keep k
        have hlenk : (liveF s0 d.pend keep k).length = d.sec.length := (liveF_len _ _ _ _).trans HL0.out
        obtain ⟨sk, hsk⟩ : ∃ sk, sk = liveF s0 d.pend keep k := ⟨_, rfl⟩
        obtain ⟨p, hpk⟩ : ∃ p, p = d.pend.getD k noWrite := ⟨_, rfl⟩
        rw [← hsk, ← hpk] at hsucc
        rw [← hsk] at hlenk hd
        rw [← hpk] at hok hrg'
        have h129 : (pcs p).length = 129 := pcs_len p hok.2.2.1 hok.2.2.2
        have HRGP := Lib.hid hrg'
        have HSP : Hid ((Try.prog.info? 77).map (·.size) = some (pcs p).length) := (show _ = _ by rw [h129]; exact size81)
        have HFTP : Hid (0 + (pcs p).length ≤ (pcs (0, nought, nought)).length) := (show _ ≤ _ by rw [h129]; exact Nat.le_refl _)
        have HRN := Lib.hid (Row.new wr 77 (pcs (0, nought, nought)))
        have HSUC := Lib.hid hsucc
        have HOK := Lib.hid hok
        have HCI : Hid (CI w F g gs c w.heap.size (some ⟨gp, 0, none⟩) { d with sec := sk } wr) := (show CI _ _ _ _ _ _ _ _ _ from ⟨hd, hbx, hoff⟩)
        have HOW := Lib.hid hoffW
        have HLK := Lib.hid hlenk
        have H129 := Lib.hid h129
        clear hd hbx hoff hoffW hrg hrg' hok hsucc hlenk hsk hpk h129 HI
        go_wp2_with (first
          | (with_reducible refine wpList_load_mid (op := ⟨some 36, _, _, _, _, _⟩) ?_ 77 (.tmp 35) ?_ gp (k * 129) ?_ (pcs p) _ HRGP.out Try.underlying77 ?_ HSP.out ?_)
          | (with_reducible refine wpList_store_in (op := ⟨none, _, _, _, _, _⟩) ?_ 77 (.tmp 8) (.tmp 36) ?_ wr.heap.size 0 (pcs p) ?_ ?_ 77 (pcs (0, nought, nought)) ?_ HFTP.out (pcs_one p) HSP.out ?_))
        all_goals try (first | rfl | exact HRN.out | (simp; done))
        intro w5 hr5 hg5
        rw [splice_all (pcs (0, nought, nought)) (pcs p) (by rw [H129.out]; rfl)] at hr5
        have hb5 : Below wr.heap.size wr w5 := ((Below.refl _ _).alloc (Nat.le_refl _) _).grown hg5 (by simp) (fun j e => Nat.le_of_eq (Option.some.inj e))
        have hci5 := HCI.out.below hb5
        have how5 : Off F W w5 := HOW.out.trans (Ext.refl _ _ _) (Off.of_below hb5)
        have hsr : wr.heap.size < w5.heap.size := hr5.lt
        have hws : w.heap.size ≤ wr.heap.size := HCI.out.2.2.size
        have HCI5 := Lib.hid hci5
        have HOW5 := Lib.hid how5
        have HR5 := Lib.hid hr5
        clear hg5 hb5 hci5 how5 hr5 HCI HOW HRN HRGP
        by_cases hkk : k < n'
        · obtain ⟨bk, ok, rfl, hbk, hrk⟩ := HV.out (by simp [bools, HK.out]; omega)
          have hbv : (bools keep)[k]? = some (.bool (keep.getD k false)) := by simp [bools, List.getD_eq_getElem?_getD, show k < keep.length by rw [HK.out]; exact hkk]
          have hcell : w5.cell? ⟨bk, ok + k, none⟩ = some (.bool (keep.getD k false)) := HCI5.out.2.2.cell (a := ⟨bk, ok + k, none⟩) (HF.out (by rw [HK.out]; omega) bk ok none rfl) (hrk k _ hbv)
          have hki : (k : Int) < (n' : Int) := by omega
          cases hkeep : keep.getD k false with
          | true =>
            rw [hkeep] at hcell
            have HS2 : Hid (liveF s0 d.pend keep (k + 1) = sk.set p.1.toNat p.2.2) := (show _ = _ from by rw [HSUC.out, hkeep]; rfl)
            obtain ⟨hd, hbx, hoff⟩ := HCI5.out
            have hok := HOK.out
            obtain ⟨sn, hsn⟩ := Int.eq_ofNat_of_zero_le hok.1
            have hp0 : p.1 = (sn : Int) := hsn
            have hsl : sn < d.sec.length := by have := hok.2.1; omega
            have hL64 : p.2.2.length = 64 := hok.2.2.2
            have k0 : w5.cell? ⟨g, 0, none⟩ = some (.slice (some ⟨gs, 0, none⟩) d.sec.length d.sec.length) := by
              have := hd.row.cell 0
              simp only [dcs, HLK.out] at this
              exact this
            have k6 : w5.cell? ⟨wr.heap.size, 0, none⟩ = some (.int .i64 (sn : Int)) := by rw [← hp0]; exact HR5.out.cell 0
            have hrg6 : w5.rangeAt wr.heap.size 65 (bv p.2.2) := Row.range HR5.out fun j v hj => by
              show (pcs p)[65 + j]? = some v
              have h64 : (bv p.2.1).length = 64 := by rw [bv_length]; exact hok.2.2.1
              rw [show 65 + j = (64 + j) + 1 by omega]
              simp only [pcs, List.getElem?_cons_succ]
              rw [List.getElem?_append_right (by omega), h64, show 64 + j - 64 = j by omega]; exact hj
            have HD := Lib.hid hd
            have HSZ : Hid ((Try.prog.info? 39).map (·.size) = some (bv p.2.2).length) := (show _ = _ by rw [bv_length, hL64]; exact size39)
            have HLW := Lib.hid hL64
            have HFI : Hid (sn * 64 + 64 ≤ sk.length * 64) := (show _ ≤ _ by rw [HLK.out]; omega)
            have hbF : wr.heap.size ≠ gs := fun e => by have := hlow gs hd.fs; omega
            have hgg : g ≠ gs := hd.ne
            have hwg : w.heap.size ≠ gs := fun e => hF0 (e ▸ hd.fs)
            have hsi : (sn : Int) < (d.sec.length : Int) := by omega
            have HOFF := Lib.hid hoff
            clear hd hoff HCI5 hok hsn
            go_wp2_with fail
            refine wp_region_noPanic ?_
            refine wp_region_held_drew (S := fun w' : World => w'.cell? ⟨w.heap.size, 0, none⟩ = some (.pointer (some ⟨g, 0, none⟩)) ∧ w'.cell? ⟨g, 0, none⟩ = some (.slice (some ⟨gs, 0, none⟩) d.sec.length d.sec.length) ∧ w'.cell? ⟨wr.heap.size, 0, none⟩ = some (.int .i64 (sn : Int)) ∧ w'.rangeAt wr.heap.size 65 (bv p.2.2)) (by kernel_rfl) ⟨hbx, k0, k6, hrg6⟩ (fun hHeld => ?_)
            refine wpAnyH_take (i := 0) (oi := ⟨some 47, _, _, _, _, _⟩) (v := ?v0b) rfl (by kernel_rfl) (by kernel_rfl) (by kernel_rfl) (fun _ _ _ h => h) (Or.inl ⟨by rfl, ?y0b⟩) hHeld ?r0b
            case y0b =>
              rintro w' ⟨q0, q1, q2, q3⟩
              go_simp
              try with_reducible rfl
            try simp only [Act.put, List.setIfInBounds_toArray, List.set_cons_zero, List.set_cons_succ]
            refine wpAnyH_take (i := 1) (oi := ⟨some 48, _, _, _, _, _⟩) (v := ?v1b) rfl (by kernel_rfl) (by kernel_rfl) (by kernel_rfl) (fun _ _ _ h => h) (Or.inl ⟨by rfl, ?y1b⟩) hHeld ?r1b
            case y1b =>
              rintro w' ⟨q0, q1, q2, q3⟩
              go_simp
              try with_reducible rfl
            try simp only [Act.put, List.setIfInBounds_toArray, List.set_cons_zero, List.set_cons_succ]
            refine wpAnyH_take (i := 2) (oi := ⟨some 49, _, _, _, _, _⟩) (v := ?v2b) rfl (by kernel_rfl) (by kernel_rfl) (by kernel_rfl) (fun _ _ _ h => h) (Or.inl ⟨by rfl, ?y2b⟩) hHeld ?r2b
            case y2b =>
              rintro w' ⟨q0, q1, q2, q3⟩
              go_simp
              try with_reducible rfl
            try simp only [Act.put, List.setIfInBounds_toArray, List.set_cons_zero, List.set_cons_succ]
            refine wpAnyH_take (i := 3) (oi := ⟨some 50, _, _, _, _, _⟩) (v := ?v3b) rfl (by kernel_rfl) (by kernel_rfl) (by kernel_rfl) (fun _ _ _ h => h) (Or.inl ⟨by rfl, ?y3b⟩) hHeld ?r3b
            case y3b =>
              rintro w' ⟨q0, q1, q2, q3⟩
              go_simp
              try with_reducible rfl
            try simp only [Act.put, List.setIfInBounds_toArray, List.set_cons_zero, List.set_cons_succ]
            refine wpAnyH_take (i := 4) (oi := ⟨some 51, _, _, _, _, _⟩) (v := ?v4b) rfl (by kernel_rfl) (by kernel_rfl) (by kernel_rfl) (fun _ _ _ h => h) (Or.inl ⟨by rfl, ?y4b⟩) hHeld ?r4b
            case y4b =>
              rintro w' ⟨q0, q1, q2, q3⟩
              go_simp
              try with_reducible rfl
            try simp only [Act.put, List.setIfInBounds_toArray, List.set_cons_zero, List.set_cons_succ]
            refine wpAnyH_take (i := 5) (oi := ⟨some 52, _, _, _, _, _⟩) (v := ?v5b) rfl (by kernel_rfl) (by kernel_rfl) (by kernel_rfl) (fun _ _ _ h => h) (Or.inl ⟨by rfl, ?y5b⟩) hHeld ?r5b
            case y5b =>
              rintro w' ⟨q0, q1, q2, q3⟩
              go_simp
              try with_reducible rfl
            try simp only [Act.put, List.setIfInBounds_toArray, List.set_cons_zero, List.set_cons_succ]
            refine wpAnyH_take (i := 6) (oi := ⟨some 53, _, _, _, _, _⟩) (v := ?v6b) rfl (by kernel_rfl) (by kernel_rfl) (by kernel_rfl) (fun _ _ _ h => h) (Or.inl ⟨by rfl, ?y6b⟩) hHeld ?r6b
            case y6b =>
              rintro w' ⟨q0, q1, q2, q3⟩
              go_simp
              try with_reducible rfl
            try simp only [Act.put, List.setIfInBounds_toArray, List.set_cons_zero, List.set_cons_succ]
            refine wpAnyH_take (i := 7) (oi := ⟨some 54, _, _, _, _, _⟩) rfl (by kernel_rfl) (by kernel_rfl) (by kernel_rfl) (fun _ _ _ h => h) (yieldsIf_load_mid (by rfl) 39 (.tmp 53) rfl wr.heap.size 65 ?x7b (bv p.2.2) _ (fun _ hS => hS.2.2.2) Try.underlying39 rfl HSZ.out) hHeld ?r7b
            case x7b => first | rfl | (simp [Act.eval, go_sem]; done)
            try simp only [Act.put, List.setIfInBounds_toArray, List.set_cons_zero, List.set_cons_succ]
            refine wpAnyH_take (i := 8) (oi := ⟨some 55, _, _, _, _, _⟩) (v := ?v8b) rfl (by kernel_rfl) (by kernel_rfl) (by kernel_rfl) (fun _ _ _ h => h) (Or.inl ⟨by rfl, ?y8b⟩) hHeld ?r8b
            case y8b =>
              rintro w' ⟨q0, q1, q2, q3⟩
              go_simp
              try with_reducible rfl
            try simp only [Act.put, List.setIfInBounds_toArray, List.set_cons_zero, List.set_cons_succ]
            refine wpAnyH_ready (rs := [9]) (by kernel_rfl) (by simp) ?_
            refine AllReadyH.cons rfl (fun K hK => ?_) AllReadyH.nil
            rw [if_pos (by rfl)]
            refine wp_store_mid 39 (.tmp 55) (.tmp 54) rfl gs (sn * 64) (bv p.2.2).toArray ?_ rfl ?_ ?_ (all_oneCell_toArray bv_one) ?_
            · first | rfl | (simp [Act.eval]; done)
            · rw [List.size_toArray]; exact Row.there HD.out.secs.drew (by rw [bv_length, bv_length, HLW.out, flat_len _ HD.out.good.sec]; exact HFI.out)
            · rw [List.size_toArray]; exact HSZ.out
            rw [List.toList_toArray]
            obtain ⟨hd3, ho3⟩ := sec_set (i := sn) HD.out (by show sn < sk.length; rw [HLK.out]; exact hsl) hL64
            have hg3 := grown_setCells gs (bv p.2.2) (sn * 64) w5.drew
            generalize w5.drew.setCells gs (sn * 64) (bv p.2.2) = W4 at hd3 ho3 hg3 ⊢
            have hsame : ∀ k, k < w5.heap.size → k ≠ gs → W4.heap[k]? = w5.heap[k]? := fun k hk hne => hg3.block k hk (fun e => hne (Option.some.inj e))
            have hcl : ∀ (bb o : Nat) (v : Value), bb ≠ gs → w5.cell? ⟨bb, o, none⟩ = some v → W4.cell? ⟨bb, o, none⟩ = some v := fun bb o v hne hc => (World.cell?_of_block (a := ⟨bb, o, none⟩) (hsame bb (World.block_lt_of_cell? w5 _ hc) hne)).trans hc
            refine hK _ _ ⟨hcl _ _ _ hwg hbx, hcl _ _ _ hgg k0, hcl _ _ _ hbF k6, fun j v hj => hcl _ _ _ hbF (hrg6 j v hj)⟩ (fun _ => wpAnyH_done (by kernel_rfl) (NoPanic.normal ?_) _)
            have HI6 : Hid (CI w F g gs c w.heap.size (some ⟨gp, 0, none⟩) { d with sec := liveF s0 d.pend keep (k + 1) } W4 ∧ Off F W W4) := (show _ ∧ _ from by
              rw [HS2.out, hp0]
              exact ⟨⟨hd3, hcl _ _ _ hwg hbx, HOFF.out.trans (Ext.refl _ _ _) ho3⟩, HOW5.out.trans (Ext.refl _ _ _) ho3⟩)
            clear hK K hd3 ho3 hg3 hsame hcl hHeld hcell
            go_wp2
            go_roundw
            case rel => exact ⟨k + 1, by omega, by go_num, HI6⟩
            case measure => simp [intOf]; omega
          | false =>
            rw [hkeep] at hcell
            have HI6 : Hid (CI w F g gs c w.heap.size (some ⟨gp, 0, none⟩) { d with sec := liveF s0 d.pend keep (k + 1) } w5 ∧ Off F W w5) := (show _ ∧ _ from by
              have e : liveF s0 d.pend keep (k + 1) = sk := by rw [HSUC.out, hkeep]; rfl
              rw [e]
              exact ⟨HCI5.out, HOW5.out⟩)
            go_wp2
            go_roundw
            case rel => exact ⟨k + 1, by omega, by go_num, HI6⟩
            case measure => simp [intOf]; omega
        · have hkf : keep.getD k false = false := by
            rw [List.getD_eq_getElem?_getD, List.getElem?_eq_none (by rw [HK.out]; omega)]; rfl
          have HI6 : Hid (CI w F g gs c w.heap.size (some ⟨gp, 0, none⟩) { d with sec := liveF s0 d.pend keep (k + 1) } w5 ∧ Off F W w5) := (show _ ∧ _ from by
            have e : liveF s0 d.pend keep (k + 1) = sk := by rw [HSUC.out, hkf]; rfl
            rw [e]
            exact ⟨HCI5.out, HOW5.out⟩)
          have hki : ¬ (k : Int) < (n' : Int) := by omega
          go_wp2
          go_roundw
          case rel => exact ⟨k + 1, by omega, by go_num, HI6⟩
          case measure => simp [intOf]; omega
      · obtain rfl : k = n := by omega
        obtain ⟨⟨hd, hbx, hoff⟩, hoffW⟩ := HI.out
        have hd1 := pend_none hd
        have z1 := hd.row.frozen 1
        have y1 : wr.cell? ⟨g, 1, none⟩ = some (.slice A d.pend.length c) := hd.row.cell 1
        have hgw : g ≠ w.heap.size := fun e => hF0 (e ▸ hd.fg)
        have hoff1 : Off F w (wr.setCell ⟨g, 1, none⟩ (.slice none 0 0)) := hoff.setCell (.inl hd.fg) _
        have hoffW1 : Off F W (wr.setCell ⟨g, 1, none⟩ (.slice none 0 0)) := hoffW.setCell (.inl hd.fg) _
        have hbx1 : (wr.setCell ⟨g, 1, none⟩ (.slice none 0 0)).cell? ⟨w.heap.size, 0, none⟩ = some (.pointer (some ⟨g, 0, none⟩)) := (World.cell?_setCell_other _ _ _ _ (fun e => by have h9 := congrArg Addr.block e; simp at h9; exact hgw (by omega))).trans hbx
        have HD1 := Lib.hid hd1
        have HO1 := Lib.hid hoff1
        have HOW1 := Lib.hid hoffW1
        have HBX1 := Lib.hid hbx1
        have hfg := hd.fg
        clear hd hoff hoffW hd1 hoff1 hoffW1 hbx1 HI
        go_wp2_with fail
        obtain ⟨w7, hw7⟩ : ∃ w7, w7 = wr.setCell ⟨g, 1, none⟩ (.slice none 0 0) := ⟨_, rfl⟩
        rw [← hw7] at HD1 HO1 HOW1 HBX1 ⊢
        have hbx7 := HBX1.out
        have HB68 := Lib.hid (show Try.prog.built 62 [] = some #[.bool false, .int .i64 0] by kernel_rfl)
        have y2 : w7.drew.cell? ⟨g, 2, none⟩ = some (.bool d.dead) := HD1.out.row.cell 2
        have y3 : w7.drew.cell? ⟨g, 3, none⟩ = some (.bool d.ps) := HD1.out.row.cell 3
        have y4 : w7.drew.cell? ⟨g, 4, none⟩ = some (.int .i64 d.pl) := HD1.out.row.cell 4
        have y5 : w7.drew.cell? ⟨g, 5, none⟩ = some (.bool d.fs) := HD1.out.row.cell 5
        have y6 : w7.drew.cell? ⟨g, 6, none⟩ = some (.int .i64 d.fl) := HD1.out.row.cell 6
        have z2 : w7.drew.frozen? ⟨g, 2, none⟩ = false := HD1.out.row.frozen 2
        have z3 : w7.drew.frozen? ⟨g, 3, none⟩ = false := HD1.out.row.frozen 3
        have z4 : w7.drew.frozen? ⟨g, 4, none⟩ = false := HD1.out.row.frozen 4
        have z5 : w7.drew.frozen? ⟨g, 5, none⟩ = false := HD1.out.row.frozen 5
        have z6 : w7.drew.frozen? ⟨g, 6, none⟩ = false := HD1.out.row.frozen 6
        clear hw7 y1 z1
        refine wp_region_noPanic ?_
        refine wp_region_held_drew (S := fun w' : World => w'.cell? ⟨w.heap.size, 0, none⟩ = some (.pointer (some ⟨g, 0, none⟩))) (by kernel_rfl) hbx7 (fun hHeld => ?_)
        refine wpAnyH_take (i := 0) (oi := ⟨some 60, _, _, _, _, _⟩) (v := ?v0z) rfl (by kernel_rfl) (by kernel_rfl) (by kernel_rfl) (fun _ _ _ h => h) (Or.inl ⟨by rfl, ?y0z⟩) hHeld ?r0z
        case y0z =>
          rintro w' q0
          go_simp
          try with_reducible rfl
        try simp only [Act.put, List.setIfInBounds_toArray, List.set_cons_zero, List.set_cons_succ]
        refine wpAnyH_take (i := 1) (oi := ⟨some 61, _, _, _, _, _⟩) (v := ?v1z) rfl (by kernel_rfl) (by kernel_rfl) (by kernel_rfl) (fun _ _ _ h => h) (Or.inl ⟨by rfl, ?y1z⟩) hHeld ?r1z
        case y1z =>
          rintro w' q0
          go_simp
          try with_reducible rfl
        try simp only [Act.put, List.setIfInBounds_toArray, List.set_cons_zero, List.set_cons_succ]
        refine wpAnyH_take (i := 2) (oi := ⟨some 62, _, _, _, _, _⟩) (v := ?v2z) rfl (by kernel_rfl) (by kernel_rfl) (by kernel_rfl) (fun _ _ _ h => h) (Or.inl ⟨by rfl, ?y2z⟩) hHeld ?r2z
        case y2z =>
          rintro w' q0
          go_simp
          try with_reducible rfl
        try simp only [Act.put, List.setIfInBounds_toArray, List.set_cons_zero, List.set_cons_succ]
        refine wpAnyH_take (i := 3) (oi := ⟨some 63, _, _, _, _, _⟩) rfl (by kernel_rfl) (by kernel_rfl) (by kernel_rfl) (fun _ _ _ h => h) (yieldsIf_build (by rfl) 62 _ rfl #[.bool false, .int .i64 0] ?x3z) hHeld ?r3z
        case x3z => first | exact HB68.out | (simp only [List.map_toArray, List.map_nil, List.toList_toArray]; exact HB68.out)
        try simp only [Act.put, List.setIfInBounds_toArray, List.set_cons_zero, List.set_cons_succ]
        refine wpAnyH_take (i := 4) (oi := ⟨some 64, _, _, _, _, _⟩) rfl (by kernel_rfl) (by kernel_rfl) (by kernel_rfl) (fun _ _ _ h => h) (yieldsIf_build (by rfl) 62 _ rfl #[.bool false, .int .i64 0] ?x4z) hHeld ?r4z
        case x4z => first | exact HB68.out | (simp only [List.map_toArray, List.map_nil, List.toList_toArray]; exact HB68.out)
        try simp only [Act.put, List.setIfInBounds_toArray, List.set_cons_zero, List.set_cons_succ]
        refine wpAnyH_take (i := 5) (oi := ⟨some 65, _, _, _, _, _⟩) (v := ?v5z) rfl (by kernel_rfl) (by kernel_rfl) (by kernel_rfl) (fun _ _ _ h => h) (Or.inl ⟨by rfl, ?y5z⟩) hHeld ?r5z
        case y5z =>
          rintro w' q0
          go_simp
          try with_reducible rfl
        try simp only [Act.put, List.setIfInBounds_toArray, List.set_cons_zero, List.set_cons_succ]
        refine wpAnyH_take (i := 6) (oi := ⟨some 66, _, _, _, _, _⟩) (v := ?v6z) rfl (by kernel_rfl) (by kernel_rfl) (by kernel_rfl) (fun _ _ _ h => h) (Or.inl ⟨by rfl, ?y6z⟩) hHeld ?r6z
        case y6z =>
          rintro w' q0
          go_simp
          try with_reducible rfl
        try simp only [Act.put, List.setIfInBounds_toArray, List.set_cons_zero, List.set_cons_succ]
        refine wpAnyH_ready (rs := [7]) (by kernel_rfl) (by simp) ?_
        refine AllReadyH.cons rfl (fun K hK => ?_) AllReadyH.nil
        rw [if_pos (by rfl)]
        go_simp
        obtain ⟨w8, hw8⟩ : ∃ w8, w8 = w7.drew.setCell ⟨g, 2, none⟩ (.bool false) := ⟨_, rfl⟩
        have hd8 : DskAt w8 F g gs none 0 { (({ d with sec := liveF s0 d.pend keep k, pend := [] } : DM)) with dead := false } := by
          rw [hw8]
          exact (DskAt.drew HD1.out).store (i := 2) rfl rfl rfl ⟨HD1.out.good.pos, HD1.out.good.most, HD1.out.good.sec, HD1.out.good.pend, HD1.out.good.left⟩
        have ho8 : Off F w w8 := by rw [hw8]; exact (Off.drew HO1.out).setCell (.inl hfg) _
        have how8 : Off F W w8 := by rw [hw8]; exact (Off.drew HOW1.out).setCell (.inl hfg) _
        have hne : ∀ (wz : World) (i : Nat) (v : Value), wz.cell? ⟨w.heap.size, 0, none⟩ = some (.pointer (some ⟨g, 0, none⟩)) → (wz.setCell ⟨g, i, none⟩ v).cell? ⟨w.heap.size, 0, none⟩ = some (.pointer (some ⟨g, 0, none⟩)) := fun wz i v h => (World.cell?_setCell_other _ _ _ _ (fun e => by have h9 := congrArg Addr.block e; simp at h9; exact hgw (by omega))).trans h
        have hb8 : w8.cell? ⟨w.heap.size, 0, none⟩ = some (.pointer (some ⟨g, 0, none⟩)) := by rw [hw8]; exact hne _ _ _ hbx7
        have e8 : (w7.setCell ⟨g, 2, none⟩ (.bool false)).drew = w8 := hw8.symm
        rw [e8]
        refine hK _ w8 hb8 (fun _ => ?_)
        try simp only [Act.put, List.setIfInBounds_toArray, List.set_cons_zero, List.set_cons_succ]
        clear hw8 e8 hK K y2 y3 y4 y5 y6 z2 z3 z4 z5 z6
        refine wpAnyH_take (i := 8) (oi := ⟨some 67, _, _, _, _, _⟩) (v := ?v8z) rfl (by kernel_rfl) (by kernel_rfl) (by kernel_rfl) (fun _ _ _ h => h) (Or.inl ⟨by rfl, ?y8z⟩) hb8 ?r8z
        case y8z =>
          rintro w' q0
          go_simp
          try with_reducible rfl
        try simp only [Act.put, List.setIfInBounds_toArray, List.set_cons_zero, List.set_cons_succ]
        refine wpAnyH_take (i := 9) (oi := ⟨some 68, _, _, _, _, _⟩) (v := ?v9z) rfl (by kernel_rfl) (by kernel_rfl) (by kernel_rfl) (fun _ _ _ h => h) (Or.inl ⟨by rfl, ?y9z⟩) hb8 ?r9z
        case y9z =>
          rintro w' q0
          go_simp
          try with_reducible rfl
        try simp only [Act.put, List.setIfInBounds_toArray, List.set_cons_zero, List.set_cons_succ]
        refine wpAnyH_ready (rs := [10]) (by kernel_rfl) (by simp) ?_
        refine AllReadyH.cons rfl (fun K hK => ?_) AllReadyH.nil
        rw [if_pos (by rfl)]
        refine wp_store_mid 62 (.tmp 68) (.tmp 63) rfl g 3 #[.bool false, .int .i64 0] rfl rfl (Row.there hd8.row (by show 3 + 2 ≤ 8; omega)) size68 (by simp [Value.oneCell']) ?_
        have hd9 : DskAt (w8.setCells g 3 [.bool false, .int .i64 0]) F g gs none 0 { (({ d with sec := liveF s0 d.pend keep k, pend := [] } : DM)) with dead := false, ps := false, pl := 0 } := by
          show DskAt ((w8.setCell ⟨g, 3, none⟩ (.bool false)).setCell ⟨g, 3 + 1, none⟩ (.int .i64 0)) _ _ _ _ _ _
          refine (hd8.store (i := 3) (v := .bool false) (d' := { (({ d with sec := liveF s0 d.pend keep k, pend := [] } : DM)) with dead := false, ps := false }) rfl rfl rfl ⟨hd8.good.pos, hd8.good.most, hd8.good.sec, hd8.good.pend, hd8.good.left⟩).store (i := 4) rfl rfl rfl ⟨hd8.good.pos, hd8.good.most, hd8.good.sec, hd8.good.pend, ?_⟩
          have hl := hd8.good.left
          exact ⟨Int.le_refl _, by show (0 : Int) < _; omega, hl.2.2⟩
        have hb9 : (w8.setCells g 3 [.bool false, .int .i64 0]).cell? ⟨w.heap.size, 0, none⟩ = some (.pointer (some ⟨g, 0, none⟩)) := hne _ _ _ (hne _ _ _ hb8)
        have ho9 : Off F w (w8.setCells g 3 [.bool false, .int .i64 0]) := (ho8.setCell (p := ⟨g, 3, none⟩) (.inl hfg) _).setCell (p := ⟨g, 4, none⟩) (.inl hfg) _
        have how9 : Off F W (w8.setCells g 3 [.bool false, .int .i64 0]) := (how8.setCell (p := ⟨g, 3, none⟩) (.inl hfg) _).setCell (p := ⟨g, 4, none⟩) (.inl hfg) _
        rw [show (#[.bool false, .int .i64 0] : Array Value).toList = [.bool false, .int .i64 0] from rfl]
        generalize w8.setCells g 3 [.bool false, .int .i64 0] = w9 at hd9 hb9 ho9 how9 ⊢
        refine hK _ w9 hb9 (fun _ => ?_)
        try simp only [Act.put, List.setIfInBounds_toArray, List.set_cons_zero, List.set_cons_succ]
        clear hK K hd8 hb8 ho8 how8
        refine wpAnyH_take (i := 11) (oi := ⟨some 69, _, _, _, _, _⟩) (v := ?v11z) rfl (by kernel_rfl) (by kernel_rfl) (by kernel_rfl) (fun _ _ _ h => h) (Or.inl ⟨by rfl, ?y11z⟩) hb9 ?r11z
        case y11z =>
          rintro w' q0
          go_simp
          try with_reducible rfl
        try simp only [Act.put, List.setIfInBounds_toArray, List.set_cons_zero, List.set_cons_succ]
        refine wpAnyH_take (i := 12) (oi := ⟨some 70, _, _, _, _, _⟩) (v := ?v12z) rfl (by kernel_rfl) (by kernel_rfl) (by kernel_rfl) (fun _ _ _ h => h) (Or.inl ⟨by rfl, ?y12z⟩) hb9 ?r12z
        case y12z =>
          rintro w' q0
          go_simp
          try with_reducible rfl
        try simp only [Act.put, List.setIfInBounds_toArray, List.set_cons_zero, List.set_cons_succ]
        refine wpAnyH_ready (rs := [13]) (by kernel_rfl) (by simp) ?_
        refine AllReadyH.cons rfl (fun K hK => ?_) AllReadyH.nil
        rw [if_pos (by rfl)]
        refine wp_store_mid 62 (.tmp 70) (.tmp 64) rfl g 5 #[.bool false, .int .i64 0] rfl rfl (Row.there hd9.row (by show 5 + 2 ≤ 8; omega)) size68 (by simp [Value.oneCell']) ?_
        have hd10 : DskAt (w9.setCells g 5 [.bool false, .int .i64 0]) F g gs none 0 { (({ d with sec := liveF s0 d.pend keep k, pend := [] } : DM)) with dead := false, ps := false, pl := 0, fs := false, fl := 0 } := by
          show DskAt ((w9.setCell ⟨g, 5, none⟩ (.bool false)).setCell ⟨g, 5 + 1, none⟩ (.int .i64 0)) _ _ _ _ _ _
          refine (hd9.store (i := 5) (v := .bool false) (d' := { (({ d with sec := liveF s0 d.pend keep k, pend := [] } : DM)) with dead := false, ps := false, pl := 0, fs := false }) rfl rfl rfl ⟨hd9.good.pos, hd9.good.most, hd9.good.sec, hd9.good.pend, hd9.good.left⟩).store (i := 6) rfl rfl rfl ⟨hd9.good.pos, hd9.good.most, hd9.good.sec, hd9.good.pend, ?_⟩
          have hl := hd9.good.left
          exact ⟨hl.1, hl.2.1, Int.le_refl _, by show (0 : Int) < _; omega⟩
        have hb10 : (w9.setCells g 5 [.bool false, .int .i64 0]).cell? ⟨w.heap.size, 0, none⟩ = some (.pointer (some ⟨g, 0, none⟩)) := hne _ _ _ (hne _ _ _ hb9)
        have ho10 : Off F w (w9.setCells g 5 [.bool false, .int .i64 0]) := (ho9.setCell (p := ⟨g, 5, none⟩) (.inl hfg) _).setCell (p := ⟨g, 6, none⟩) (.inl hfg) _
        have how10 : Off F W (w9.setCells g 5 [.bool false, .int .i64 0]) := (how9.setCell (p := ⟨g, 5, none⟩) (.inl hfg) _).setCell (p := ⟨g, 6, none⟩) (.inl hfg) _
        rw [show (#[.bool false, .int .i64 0] : Array Value).toList = [.bool false, .int .i64 0] from rfl]
        generalize w9.setCells g 5 [.bool false, .int .i64 0] = w10 at hd10 hb10 ho10 how10 ⊢
        refine hK _ w10 hb10 (fun _ => wpAnyH_done (by kernel_rfl) (NoPanic.normal ?_) _)
        have hKD : w10.heap[D]? = some (.deferred (some [])) := (how10.block D hDW hDF).trans HKD.out
        have hcm : d.crashM keep = { (({ d with sec := liveF s0 d.pend keep k, pend := [] } : DM)) with dead := false, ps := false, pl := 0, fs := false, fl := 0 } := by
          rw [DM.crashM, liveM, HS0.out, ← HN.out]
        rw [← hcm] at hd10
        have HKDD := Lib.hid hKD
        have HD10 := Lib.hid hd10
        have HO10 := Lib.hid ho10
        clear hK K hd9 hb9 ho9 how9 hd10 hb10 ho10 how10 hKD hcm
        go_wp2
        refine ⟨by simp, .inl ⟨_, _, rfl, run_takeDeferred HKDD.out, ?_⟩⟩
        have hg11 := grownBy_putObj' w10 D (.deferred none)
        have hd11 : DskAt (w10.putObj D (.deferred none)) F g gs none 0 (d.crashM keep) := HD10.out.off (F' := fun j => j = D) (fun j hj e => hDF (e ▸ hj)) (Off.of_grown hg11 (fun j e => (Option.some.inj e).symm))
        have ho11 : Off F w (w10.putObj D (.deferred none)) := HO10.out.grown hg11 (fun j e => .inr (by have := Option.some.inj e; omega))
        exact ⟨_, results_tmp rfl _ _ _, ⟨rfl, Goes.mk HDK.out hd11 (Ext.refl _ _ _) ho11⟩⟩
  case stop =>
    intro D c pre W _ _ h _
    exact h.elim
theorem crash_any (g : Nat) (d : DM) (F : Nat → Prop) (A' : Option Addr) (n' c' : Nat) (keep : List Bool) (w : World) (h : Disk w F g d) (hp : d.pend.length ≤ 1000000) (hk : keep.length = n') (hv : Vs w w.heap.size A' (bools keep)) (hF : ∀ b o s, A' = some ⟨b, o, s⟩ → ¬ F b) :
    Calls Try.prog 20 #[.pointer (some ⟨g, 0, none⟩), .slice A' n' c'] w fun e w' => e = .returned (.int .i64 0) ∧ Goes F w g (d.crashM keep) w' :=
  crash_any0 g d F A' n' c' keep w h hp hk hv (fun _ => hF)
end Go.Proofs.Ytbfpadilcfelbaa.Dsk
