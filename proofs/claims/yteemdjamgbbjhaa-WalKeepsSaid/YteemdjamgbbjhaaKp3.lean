/-
  Part 3 of the contracts that the law rests on.
-/
import Derived.Test.YteemdjamgbbjhaaKp2
/-
  lay, by its contract.
-/
namespace Go.Proofs.Yteemdjamgbbjhaa.Wl
set_option maxRecDepth 100000
open Go.RowKit Go.Shelf Go.Proofs.Yteemdjamgbbjhaa.Wd Go.Proofs.Yteemdjamgbbjhaa.Dsk Go.Proofs.Yteemdjamgbbjhaa.Oct Go.Proofs.Yteemdjamgbbjhaa.Sum

attribute [local go_sem] Oper.semAt_some

theorem write_pend (d : DM) (i : Int) (b : List UInt8) : (d.writeM i b).1.pend.length ≤ d.pend.length + 1 := by
  unfold DM.writeM
  split
  · show ((d.pre i true).1.pend ++ [_]).length ≤ _
    rw [pre_pend]; simp
  · rw [pre_pend]; omega
theorem row_kept {W W' : World} {g : Nat} {t : TypeId} {cs : List Value} {row : Option Nat} (h : Row W g t cs) (hg : W.grownBy W' row) (hr : ∀ r, row = some r → ∃ o : Obj, W.heap[r]? = some o ∧ o.isCells = false) : Row W' g t cs :=
  h.grown hg (fun e => by
    obtain ⟨o, ho, hc⟩ := hr g e.symm
    rw [show W.heap[g]? = _ from h] at ho
    cases ho
    cases hc)
theorem dskAt_kept {F : Nat → Prop} {g gs c : Nat} {A : Option Addr} {d : DM} {W W' : World} {row : Option Nat} (h : DskAt W F g gs A c d) (hg : W.grownBy W' row) (hr : ∀ r, row = some r → ∃ o : Obj, W.heap[r]? = some o ∧ o.isCells = false) : DskAt W' F g gs A c d := by
  refine ⟨h.fg, h.fs, h.ne, h.own, row_kept h.row hg hr, row_kept h.secs hg hr, ?_, h.good⟩
  rcases h.pend with ⟨hl, hv | ⟨gp, cap, cur, hv, hb, hgp, hrest⟩⟩
  · exact ⟨hl, .inl hv⟩
  · refine ⟨hl, .inr ⟨gp, cap, cur, hv, hb, ?_, hrest⟩⟩
    have h0 : Row W gp 121 cur.toList := by show _ = _; simpa using hgp
    have h2 : W'.heap[gp]? = _ := row_kept h0 hg hr
    simpa using h2
theorem disk_drew {F : Nat → Prop} {g : Nat} {d : DM} {W : World} (h : Disk W F g d) : Disk W.drew F g d := by
  obtain ⟨⟨gs, A, c, h1⟩, h2⟩ := h
  exact ⟨⟨gs, A, c, ⟨h1.fg, h1.fs, h1.ne, h1.own, h1.row, h1.secs, h1.pend, h1.good⟩⟩, h2⟩
theorem disk_kept {F : Nat → Prop} {g : Nat} {d : DM} {W W' : World} {row : Option Nat} (h : Disk W F g d) (hg : W.grownBy W' row) (hr : ∀ r, row = some r → ∃ o : Obj, W.heap[r]? = some o ∧ o.isCells = false) : Disk W' F g d := by
  obtain ⟨⟨gs, A, c, h1⟩, h2⟩ := h
  exact ⟨⟨gs, A, c, dskAt_kept h1 hg hr⟩, fun k hk => Nat.lt_of_lt_of_le (h2 k hk) hg.size⟩
/-- the disk's own blocks, no more -/
theorem disk_min {F : Nat → Prop} {g : Nat} {d : DM} {W : World} (h : Disk W F g d) : ∃ Fm : Nat → Prop, Disk W Fm g d ∧ (∀ k, Fm k → F k) ∧ ∀ k o, Fm k → W.heap[k]? = some o → o.isCells = true := by
  obtain ⟨⟨gs, A, c, hda⟩, hlt⟩ := h
  have hF : ∀ k, (k = g ∨ k = gs ∨ (Value.slice A d.pend.length c).ownBlock = some k) → F k := fun k hk => by
    rcases hk with rfl | rfl | hk
    · exact hda.fg
    · exact hda.fs
    · exact (hda.own k hk).1
  refine ⟨fun k => k = g ∨ k = gs ∨ (Value.slice A d.pend.length c).ownBlock = some k, ⟨⟨gs, A, c, .inl rfl, .inr (.inl rfl), hda.ne, fun k hk => ⟨.inr (.inr hk), (hda.own k hk).2⟩, hda.row, hda.secs, hda.pend, hda.good⟩, fun k hk => hlt k (hF k hk)⟩, hF, fun k o hk ho => ?_⟩
  rcases hk with rfl | rfl | hk
  · rw [show W.heap[k]? = _ from hda.row] at ho; cases ho; rfl
  · rw [show W.heap[k]? = _ from hda.secs] at ho; cases ho; rfl
  · rcases hda.pend with ⟨_, hv | ⟨gp, cap, cur, hv, _, hgp, _⟩⟩
    · rw [hv.1] at hk; cases hk
    · rw [hv] at hk
      cases hk
      rw [hgp] at ho; cases ho; rfl
/-- two rows in one block are of one type -/
theorem row_type {W : World} {k : Nat} {t t' : TypeId} {cs cs' : List Value} (h : Row W k t cs) (h' : Row W k t' cs') : t = t' := by
  have e := (show W.heap[k]? = _ from h).symm.trans h'
  cases e
  rfl
theorem row_cells {W : World} {k : Nat} {t t' : TypeId} {cs cs' : List Value} (h : Row W k t cs) (h' : Row W k t' cs') : cs = cs' := by
  have e := (show W.heap[k]? = _ from h).symm.trans h'
  have := congrArg (fun o => match o with | some (Obj.cells a _ _) => a.toList | _ => []) e
  simpa using this
abbrev prs (l : List IB) : List (Int × List UInt8) := l.map (·.1)
/-- what the rounds of lay hold: the disk behind what was written, lay's boxes -/
structure LI (w1 : World) (F : Nat → Prop) (dg B : Nat) (g : Nat) (f : Nat) (err : Int) (d : DM) (W : World) : Prop where
  dsk : ∃ F', Disk W F' dg d ∧ (∀ k, F' k → F k ∨ w1.heap.size ≤ k) ∧ Off (fun k => F k ∨ k = B + 2) w1 W
  b3 : Row W B 30 [.pointer (some ⟨g, 0, none⟩)]
  b4 : Row W (B + 1) 3 [.int .i64 (f : Int)]
  b6 : Row W (B + 2) 24 [.int .i64 err]
  sz : w1.heap.size ≤ W.heap.size
theorem LI.own {w1 : World} {F : Nat → Prop} {dg B g f : Nat} {err : Int} {d : DM} {W W' : World} {row : Option Nat} (h : LI w1 F dg B g f err d W) (hg : W.grownBy W' row) (hr : ∀ r, row = some r → w1.heap.size ≤ r ∧ ∃ o : Obj, W.heap[r]? = some o ∧ o.isCells = false) : LI w1 F dg B g f err d W' := by
  obtain ⟨⟨F', h1, h2, h3⟩, b3, b4, b6, sz⟩ := h
  have hr' := fun r e => (hr r e).2
  exact ⟨⟨F', disk_kept h1 hg hr', h2, h3.grown hg (fun r e => .inr (hr r e).1)⟩, row_kept b3 hg hr', row_kept b4 hg hr', row_kept b6 hg hr', Nat.le_trans sz hg.size⟩
theorem LI.below {w1 : World} {F : Nat → Prop} {dg B g f : Nat} {err : Int} {d : DM} {W W' : World} (h : LI w1 F dg B g f err d W) (hb : Below W.heap.size W W') : LI w1 F dg B g f err d W' := by
  obtain ⟨⟨F', h1, h2, h3⟩, b3, b4, b6, sz⟩ := h
  exact ⟨⟨F', h1.below hb, h2, ⟨hb.os.trans h3.os, hb.tape.trans h3.tape, hb.output.trans h3.output, Nat.le_trans h3.size hb.size, fun k hk hn => (hb.block k (Nat.lt_of_lt_of_le hk h3.size)).trans (h3.block k hk hn)⟩⟩, b3.below hb b3.lt, b4.below hb b4.lt, b6.below hb b6.lt, Nat.le_trans sz hb.size⟩
theorem LI.store6 {w1 : World} {F : Nat → Prop} {dg B g f : Nat} {err : Int} {d : DM} {W : World} (h : LI w1 F dg B g f err d W) (hB : B + 2 < w1.heap.size) (hF : ∀ k, F k → k < B) (e2 : Int) : LI w1 F dg B g f e2 d (W.setCell ⟨B + 2, 0, none⟩ (.int .i64 e2)) := by
  obtain ⟨⟨F', h1, h2, h3⟩, b3, b4, b6, sz⟩ := h
  have hn : ∀ k, F' k → k ≠ B + 2 := fun k hk e => by
    rcases h2 k hk with h | h
    · have := hF k h; omega
    · omega
  refine ⟨⟨F', h1.off (F' := fun k => k = B + 2) hn ((Off.refl (fun k => k = B + 2) W).setCell (.inl rfl) _), h2, h3.setCell (.inl (.inr rfl)) _⟩, Row.far b3 (p := ⟨B + 2, 0, none⟩) (by show B ≠ B + 2; omega) _, Row.far b4 (p := ⟨B + 2, 0, none⟩) (by show B + 1 ≠ B + 2; omega) _, Row.store b6 0 _, by simpa [World.setCell] using sz⟩
/-- lay's end: the mark is taken, what broke the log is told, the result is read -/
theorem lay_end {g dg area turn m c used f : Nat} {A : Option Addr} {br : Bool} {err : Int} {dd : DM} {F : Nat → Prop} {w w1 W : World} {D : Nat} {tmps : Array Value}
    (hw : Row w g 83 (wcs dg area turn A m c used br)) (hgF : ¬ F g) (hlow : ∀ k, F k → k < w.heap.size) (hb1 : Below w.heap.size w w1) (hs1 : w1.heap.size = w.heap.size + 3) (hLI : LI w1 F dg w.heap.size g f err dd W) (hD : w1.heap.size ≤ D) (hK : W.heap[D]? = some (.deferred (some []))) (ht : tmps.getD 6 undef = .pointer (some ⟨w.heap.size + 2, 0, none⟩)) :
    LeavesInM Fence.wide 9 Try.prog Try.f45 tmps (fun e w' => e = .returned (.int .i64 err) ∧ ∃ F', Disk w' F' dg dd ∧ Ext F F' w w' ∧ Off (fun k => F k ∨ k = g) w w' ∧ Row w' g 83 (wcs dg area turn A m c used (br || decide (err ≠ 0))) ∧ ¬ F' g)
      [{ target := .collected D, args := #[] }, { target := .fn (.func 68) #[.pointer (some ⟨w.heap.size + 1 + 1, 0, none⟩), .pointer (some ⟨w.heap.size, 0, none⟩)], args := #[] }] .returning W := by
  refine ⟨by simp, .inl ⟨_, _, rfl, run_takeDeferred hK, ?_⟩⟩
  have hgp := grownBy_putObj' W D (.deferred none)
  obtain ⟨W1, hW1⟩ : ∃ W1, W.putObj D (.deferred none) = W1 := ⟨_, rfl⟩
  rw [hW1] at hgp
  have hL1 : LI w1 F dg w.heap.size g f err dd W1 := hLI.own hgp (fun r e => by cases e; exact ⟨hD, _, hK, rfl⟩)
  rw [hW1]
  clear hW1 hgp hK hLI
  obtain ⟨⟨F', hdk, hF', hoff⟩, b3, b4, b6, hsz⟩ := hL1
  have hgl := hw.lt
  have hrg : Row W1 g 83 (wcs dg area turn A m c used br) := ((hoff.block g (by omega) (fun h => h.elim hgF (fun e => by omega))).trans (hb1.block g hgl)).trans hw
  have hF'g : ¬ F' g := fun hk => by
    rcases hF' g hk with h | h
    · exact hgF h
    · omega
  refine ⟨by simp, .inr ⟨(fun h => by cases h), _, _, 68, #[.pointer (some ⟨w.heap.size + 1 + 1, 0, none⟩), .pointer (some ⟨w.heap.size, 0, none⟩)], rfl, by simp [invoke, go_sem], fun _ _ => trivial, ?_⟩⟩
  refine (lay1_any 8 (w.heap.size + 2) w.heap.size g dg area turn c used m A br err .returning W1 b6 b3 hrg).mono ?_
  rintro e u' w' ⟨rfl, rfl, hw'⟩
  show ∃ v, (results _ tmps).run Try.prog w' = .ok v w' ∧ _
  have hext : Ext F F' w w' := fun k hk => by
    rcases hF' k hk with h | h
    · exact .inl h
    · refine .inr ⟨by omega, ?_⟩
      have := hdk.2 k hk
      rw [hw']
      split
      · simpa [World.setCell] using this
      · exact this
  by_cases he : err = 0
  · subst he
    rw [if_neg (by simp)] at hw'
    subst hw'
    have c6 : w'.cell? ⟨w.heap.size + 2, 0, none⟩ = some (.int .i64 0) := b6.cell 0
    have hl : (loadVar 24 ⟨w.heap.size + 2, 0, none⟩).run Try.prog w' = .ok (.int .i64 0) w' := by go_simp
    refine ⟨_, results_cell (p := 6) (ty := 24) rfl _ _ _ _ ht hl, rfl, F', hdk, hext, ?_, ?_, hF'g⟩
    · exact ⟨hoff.os.trans hb1.os, hoff.tape.trans hb1.tape, hoff.output.trans hb1.output, Nat.le_trans hb1.size hoff.size, fun k hk hn => (hoff.block k (by omega) (fun h => h.elim (fun h => hn (.inl h)) (fun e => by omega))).trans (hb1.block k hk)⟩
    · simpa using hrg
  · rw [if_pos he] at hw'
    subst hw'
    have c6 : (W1.setCell ⟨g, 5, none⟩ (.bool true)).cell? ⟨w.heap.size + 2, 0, none⟩ = some (.int .i64 err) := (Row.far b6 (p := ⟨g, 5, none⟩) (by show w.heap.size + 2 ≠ g; omega) _).cell 0
    have hl : (loadVar 24 ⟨w.heap.size + 2, 0, none⟩).run Try.prog (W1.setCell ⟨g, 5, none⟩ (.bool true)) = .ok (.int .i64 err) (W1.setCell ⟨g, 5, none⟩ (.bool true)) := by go_simp
    refine ⟨_, results_cell (p := 6) (ty := 24) rfl _ _ _ _ ht hl, rfl, F', ?_, hext, ?_, ?_, hF'g⟩
    · exact hdk.off (F' := fun k => k = g) (fun k hk e => hF'g (e ▸ hk)) ((Off.refl (fun k => k = g) W1).setCell (.inl rfl) _)
    · have ho : Off (fun k => F k ∨ k = g) w W1 := ⟨hoff.os.trans hb1.os, hoff.tape.trans hb1.tape, hoff.output.trans hb1.output, Nat.le_trans hb1.size hoff.size, fun k hk hn => (hoff.block k (by omega) (fun h => h.elim (fun h => hn (.inl h)) (fun e => by omega))).trans (hb1.block k hk)⟩
      exact ho.setCell (.inl (.inr rfl)) _
    · have := Row.store hrg 5 (.bool true)
      rw [show (br || decide (err ≠ 0)) = true by simp [he]]
      exact this
/-- what an assignment of the loop lays: the block in a block of its own, which is no disk's -/
def LA (w1 : World) (dg : Nat) (T : Nat → Value → Value → Array Value) (x : IB) (a' : Act) (W : World) : Prop :=
  ∃ b8 gs n cs, w1.heap.size ≤ b8 ∧ Row W b8 89 (bv x.1.2) ∧ Row W dg 77 cs ∧ cs[0]? = some (.slice (some ⟨gs, 0, none⟩) n n) ∧ gs ≠ b8 ∧ a' = { tmps := T b8 (.int .i64 x.1.1) (.agg (bv x.1.2).toArray), defers := [] }
set_option maxHeartbeats 8000000 in
theorem lay_any (g dg area turn m c used : Nat) (A : Option Addr) (br : Bool) (f : Nat) (gf : FuncId) (lb : Array Value) (L : List (Int × List UInt8)) (d : DM) (F : Nat → Prop) (w : World)
    (hw : Row w g 83 (wcs dg area turn A m c used br)) (hgF : ¬ F g) (hd : Disk w F dg d) (hp : d.pend.length + L.length ≤ 1000000) (hf : f ≤ 10000)
    (heg : ∀ args w, (callFunc gf args).run Try.prog w = .ok (.enter gf args) w)
    (hseq : ∀ w1, Below w.heap.size w w1 → SeqStopsK Fence.wide 8 Try.prog gf lb encI (KT (fun k => k < w.heap.size ∧ ¬ F k)) (fun xs => xs.map (·.1) = L) (fun pre => pre.map (·.1) <+: L) L.length w1) :
    Calls Try.prog 45 #[.pointer (some ⟨g, 0, none⟩), .int .i64 (f : Int), .func (.func gf) #[] lb] w fun e w' => e = .returned (.int .i64 (layM L f d).2) ∧
      ∃ F', Disk w' F' dg (layM L f d).1 ∧ Ext F F' w w' ∧ Off (fun k => F k ∨ k = g) w w' ∧ Row w' g 83 (wcs dg area turn A m c used (br || decide ((layM L f d).2 ≠ 0))) ∧ ¬ F' g := by
  have hlow := hd.2
  have HD := Lib.hid hd
  have HW := Lib.hid hw
  have HSEQ := Lib.hid hseq
  have HEG := Lib.hid heg
  have HLOW := Lib.hid hlow
  have hgl := hw.lt
  clear hd hw hseq heg hlow
  refine (callsIn_wide (n := 9)).1 ?_
  refine callsIn_of_wp_marks Try.func45 rfl trivial ?_ rfl
  refine wpIn_wide.2 ?_
  simp only [Try.ntmps45, List.size_toArray, List.length_cons, List.length_nil, Nat.reduceAdd, Nat.reduceSub, Array.replicate_succ, Array.replicate_zero, List.push_toArray, List.append_toArray, List.nil_append, List.cons_append]
  go_wp2_with fail
  refine nw fun w1 hw1 => ?_
  have hb1 : Below w.heap.size w w1 := by
    rw [← hw1]
    exact (((Below.refl _ _).alloc (Nat.le_refl _) _).alloc (by simp) _).alloc (by simp; omega) _
  have hs1 : w1.heap.size = w.heap.size + 3 := by rw [← hw1]; simp
  have hr3 : Row w1 w.heap.size 30 [.pointer (some ⟨g, 0, none⟩)] := by rw [← hw1]; exact ((Row.new w _ _).alloc _).alloc _
  have hr4 : Row w1 (w.heap.size + 1) 3 [.int .i64 (f : Int)] := by
    rw [← hw1]
    have := Row.new (w.alloc (.cells #[.pointer (some ⟨g, 0, none⟩)] 30)) 3 [.int .i64 (f : Int)]
    rw [World.size_alloc] at this
    exact this.alloc _
  have hr6 : Row w1 (w.heap.size + 2) 24 [.int .i64 0] := by
    rw [← hw1]
    have := Row.new ((w.alloc (.cells #[.pointer (some ⟨g, 0, none⟩)] 30)).alloc (.cells #[.int .i64 (f : Int)] 3)) 24 [.int .i64 0]
    rw [World.size_alloc, World.size_alloc] at this
    exact this
  clear hw1
  have hL0 : LI w1 F dg w.heap.size g f 0 d w1 := ⟨⟨F, HD.out.below hb1, fun k hk => .inl hk, Off.refl _ _⟩, hr3, hr4, hr6, Nat.le_refl _⟩
  have HB1 := Lib.hid hb1
  have HS1 := Lib.hid hs1
  clear hb1 hr3 hr4 hr6
  refine (wpIn_wide (n := 9)).1 ?_
  refine wpIn_rangeFunc_ownH (F := Fence.wide) (n := 9) rfl (by omega) (gf := gf) (lb := lb) rfl trivial HEG.out
    (encs := encI) (Kp := KT (fun k => k < w.heap.size ∧ ¬ F k)) (S := fun xs => xs.map (·.1) = L) (Sp := fun pre => pre.map (·.1) <+: L) (N := L.length) (w0 := w1) (HSEQ.out w1 HB1.out) (fun h k => h.trans k) ?hKb (Below.refl _ _) (fun _ => rfl)
    (fun pre W => LI w1 F dg w.heap.size g f 0 (layW (prs pre) f d).1 W ∧ (layW (prs pre) f d).2 = 0 ∧ (layW (prs pre) f d).1.pend.length ≤ d.pend.length + pre.length)
    (fun cd pre W => cd = .ret ∧ LI w1 F dg w.heap.size g f (layW (prs pre) f d).2 (layW (prs pre) f d).1 W ∧ (layW (prs pre) f d).2 ≠ 0)
    (fun s X Y row hs hg hr => ⟨LI.own hs.1 hg hr, hs.2⟩) (fun cd s X Y row hs hg hr => ⟨hs.1, LI.own hs.2.1 hg hr, hs.2.2⟩) ⟨hL0, rfl, Nat.le_refl _⟩
    (LA w1 dg (fun b8 v11 v12 => #[.pointer (some ⟨g, 0, none⟩), .int .i64 (f : Int), .func (.func gf) #[] lb, .pointer (some ⟨w.heap.size, 0, none⟩), .pointer (some ⟨w.heap.size + 1, 0, none⟩), undef, .pointer (some ⟨w.heap.size + 1 + 1, 0, none⟩), v11, .pointer (some ⟨b8, 0, none⟩), .func (.func 68) #[] #[.pointer (some ⟨w.heap.size + 1 + 1, 0, none⟩), .pointer (some ⟨w.heap.size, 0, none⟩)], .func (.func gf) #[] lb, v11, v12, undef, undef, undef, undef, undef, undef, undef, undef, undef, undef, undef, undef, undef, undef, undef, undef, undef])) ?hAx ?assign ?body ?done ?stop
  case hKb =>
    intro W l o o' hl ho hc _
    refine ⟨fun k hk => World.putObj_heap_other (by have := hk.1; have := HB1.out.size; omega), fun k cs t _ hr => ?_⟩
    have hne : k ≠ l := fun e => by
      subst e
      rw [show W.heap[k]? = _ from hr] at ho
      cases ho
      cases hc
    exact (World.putObj_heap_other hne).trans hr
  case hAx =>
    rintro x a' _ X Y row ⟨b8, gs, n, cs, n1, r8, rd, hc, hne, e⟩ hg hr
    exact ⟨b8, gs, n, cs, n1, row_kept r8 hg (fun q e => (hr q e).2), row_kept rd hg (fun q e => (hr q e).2), hc, hne, e⟩
  case assign =>
    intro l pre x W K hI hK
    have hx64 := x.2.2.2
    have HRN := Lib.hid (Row.new W 89 (bv nought))
    have HFT : Hid (0 + (bv x.1.2).length ≤ (bv nought).length) := (show _ ≤ _ by rw [bv_length, bv_length, hx64]; exact Nat.le_refl _)
    have HSZ : Hid ((Try.prog.info? 89).map (·.size) = some (bv x.1.2).length) := (show _ = _ by rw [bv_length, hx64]; exact size39)
    have HI := Lib.hid hI
    unfold encI blk
    clear hI
    gi_wp2_with (first
      | (with_reducible refine wpListIn_store_in (op := ⟨none, _, _, _, _, _⟩) ?_ 89 (.tmp 8) (.tmp 12) ?_ W.heap.size 0 (bv x.1.2) ?_ ?_ 89 (bv nought) ?_ HFT.out bv_one HSZ.out ?_))
    all_goals try (first | rfl | exact HRN.out)
    intro W3 hr3 hg3
    rw [splice_all (bv nought) (bv x.1.2) (by rw [bv_length, bv_length, hx64]; rfl)] at hr3
    have hb3 : Below W.heap.size W W3 := ((Below.refl _ _).alloc (Nat.le_refl _) _).grown hg3 (by simp) (fun j e => Nat.le_of_eq (Option.some.inj e))
    have hI := HI.out
    obtain ⟨⟨F', ⟨⟨gs, A', c', hda⟩, hlt'⟩, _⟩, _, _, _, hsz⟩ := hI.1
    refine hK _ W3 ⟨hb3.size, fun k o _ hk _ => (hb3.block k (Array.getElem?_eq_some_iff.1 hk).1).trans hk⟩ ⟨fun k hk => hb3.block k (Nat.lt_of_lt_of_le hk.1 (Nat.le_trans HB1.out.size hsz)), fun k cs t _ hr => hr.below hb3 hr.lt⟩ ⟨LI.below HI.out.1 hb3, HI.out.2⟩ ⟨W.heap.size, gs, _, _, hsz, hr3, hda.row.below hb3 hda.row.lt, rfl, by have := hlt' gs hda.fs; omega, rfl⟩
  case body =>
    rintro l pre x a' W hl ⟨rr, hrr⟩ hI ⟨b8, gs, n8, cs8, n1, r8, rd, hc8, hne8, rfl⟩ hlt
    obtain ⟨hLI, hz, hpl⟩ := hI
    obtain ⟨⟨ix, xb⟩, hx0, hx1, hx64⟩ := x
    obtain ⟨⟨F', hdsk, hF', hoff⟩, b3, b4, b6, hsz⟩ := hLI
    obtain ⟨⟨gs', A', c', hda⟩, hlt'⟩ := hdsk
    obtain ⟨d', hd'⟩ : ∃ d', d' = (layW (prs pre) f d).1 := ⟨_, rfl⟩
    rw [← hd'] at hda hpl
    obtain rfl : gs' = gs := by
      have e := row_cells hda.row rd
      rw [← e] at hc8
      cases hc8
      rfl
    have hrg : Row W g 83 (wcs dg area turn A m c used br) := ((hoff.block g (by have := HB1.out.size; omega) (fun h => h.elim hgF (fun e => by omega))).trans (HB1.out.block g hgl)).trans HW.out
    -- the disk's own blocks, no more
    obtain ⟨Fm, hFm⟩ : ∃ Fm : Nat → Prop, ∀ k, Fm k ↔ k = dg ∨ k = gs' ∨ (Value.slice A' d'.pend.length c').ownBlock = some k := ⟨fun k => k = dg ∨ k = gs' ∨ (Value.slice A' d'.pend.length c').ownBlock = some k, fun k => Iff.rfl⟩
    have hFmF : ∀ k, Fm k → F' k := fun k hk => by
      rcases (hFm k).1 hk with rfl | rfl | hk
      · exact hda.fg
      · exact hda.fs
      · exact (hda.own k hk).1
    have hty : ∀ k t cs, Row W k t cs → Fm k → k = gs' ∨ t = 77 ∨ t = 121 := fun k t cs hr hk => by
      rcases (hFm k).1 hk with rfl | rfl | hk
      · exact .inr (.inl (row_type hr hda.row))
      · exact .inl rfl
      · rcases hda.pend with ⟨_, hv | ⟨gp, cap, cur, hv, _, hgp, _⟩⟩
        · rw [hv.1] at hk; cases hk
        · rw [hv] at hk
          cases hk
          have h0 : Row W gp 121 cur.toList := by show _ = _; simpa using hgp
          exact .inr (.inr (row_type hr h0))
    have hty2 : ∀ k t cs, Row W k t cs → t ≠ 77 → t ≠ 121 → t ≠ 89 → ¬ Fm k := fun k t cs hr h1 h2 h3 hk => by
      rcases hty k t cs hr hk with rfl | e | e
      · exact h3 (row_type hr hda.secs)
      · exact h1 e
      · exact h2 e
    have hcl : ∀ k o, Fm k → W.heap[k]? = some o → o.isCells = true := fun k o hk ho => by
      rcases (hFm k).1 hk with rfl | rfl | hk
      · rw [show W.heap[k]? = _ from hda.row] at ho; cases ho; rfl
      · rw [show W.heap[k]? = _ from hda.secs] at ho; cases ho; rfl
      · rcases hda.pend with ⟨_, hv | ⟨gp, cap, cur, hv, _, hgp, _⟩⟩
        · rw [hv.1] at hk; cases hk
        · rw [hv] at hk
          cases hk
          rw [hgp] at ho; cases ho; rfl
    have hdm : Disk W Fm dg d' := ⟨⟨gs', A', c', (hFm _).2 (.inl rfl), (hFm _).2 (.inr (.inl rfl)), hda.ne, fun k hk => ⟨(hFm _).2 (.inr (.inr hk)), (hda.own k hk).2⟩, hda.row, hda.secs, hda.pend, hda.good⟩, fun k hk => hlt' k (hFmF k hk)⟩
    have nb3 := hty2 _ _ _ b3 (by decide) (by decide) (by decide)
    have nb4 := hty2 _ _ _ b4 (by decide) (by decide) (by decide)
    have nb6 := hty2 _ _ _ b6 (by decide) (by decide) (by decide)
    have nbg := hty2 _ _ _ hrg (by decide) (by decide) (by decide)
    have nb8 : ¬ Fm b8 := fun hk => by
      rcases hty _ _ _ r8 hk with e | e | e
      · exact hne8 e.symm
      · exact absurd e (by decide)
      · exact absurd e (by decide)
    have HWR := Lib.hid (write_any dg d' Fm (f + ix) xb W.drew (disk_drew hdm) hx64 (by omega))
    have hwr : wrap64 ((f : Int) + ix) = f + ix := by unfold wrap64; dsimp only at hx0 hx1; omega
    have HIX : Hid ((Try.prog.info? 89).map (·.size) = some (bv xb).length) := (show _ = _ by rw [bv_length]; dsimp only at hx64; rw [hx64]; exact size39)
    have R3 := Lib.hid b3
    have R4 := Lib.hid b4
    have R6 := Lib.hid b6
    have R8 := Lib.hid r8
    have RG := Lib.hid hrg
    have hwr2 : IntKind.i64.wrap ((f : Int) + ix) = f + ix := by rw [IntKind.wrap_i64]; dsimp only at hx0 hx1; omega
    have HDA := Lib.hid hda
    have HOF := Lib.hid hoff
    have HN1 : Hid (w1.heap.size ≤ b8) := n1
    have HSZ : Hid (w1.heap.size ≤ W.heap.size) := hsz
    clear n1 hsz
    have HFF := Lib.hid hF'
    have HLT := Lib.hid hlt'
    have HFMF := Lib.hid hFmF
    have HCL := Lib.hid hcl
    have HN3 := Lib.hid nb3
    have HN4 := Lib.hid nb4
    have HN6 := Lib.hid nb6
    have HN8 := Lib.hid nb8
    have HNG := Lib.hid nbg
    have HTY := Lib.hid hty
    have HDE := Lib.hid hd'
    have HZ := Lib.hid hz
    have HPL := Lib.hid hpl
    have HX6 : Hid (xb.length = 64) := Lib.hid hx64
    have HX01 : Hid (0 ≤ ix ∧ ix ≤ 100000) := Lib.hid ⟨hx0, hx1⟩
    have HRR := Lib.hid hrr
    have HRD := Lib.hid rd
    clear hda hoff hF' hlt' hFmF hcl nb3 nb4 nb6 nb8 nbg hty hty2 hFm hdm hd' hz hpl hrr rd hc8 b3 b4 b6 hrg hL0
    gi_wp2_with fail
    refine region_in2 (S := fun w' : World => Row w' w.heap.size 30 [.pointer (some ⟨g, 0, none⟩)] ∧ Row w' g 83 (wcs dg area turn A m c used br) ∧ Row w' (w.heap.size + 1) 3 [.int .i64 (f : Int)] ∧ Row w' b8 89 (bv xb)) (by kernel_rfl) (by rfl) (by rintro ⟨_, _, h⟩; exact h) ⟨R3.out, RG.out, R4.out, R8.out⟩ (fun hHeld => ?_)
    refine wpAnyH_take (i := 0) (oi := ⟨some 13, _, _, _, _, _⟩) (v := ?v0) rfl (by kernel_rfl) (by kernel_rfl) (by kernel_rfl) (fun _ _ _ h => h) (Or.inl ⟨by rfl, ?y0⟩) hHeld ?r0
    case y0 =>
      rintro w' ⟨q0, q1, q2, q3⟩
      have e0 : w'.cell? ⟨w.heap.size, 0, none⟩ = some (.pointer (some ⟨g, 0, none⟩)) := q0.cell 0
      go_simp
      try with_reducible rfl
    try simp only [Act.put, List.setIfInBounds_toArray, List.set_cons_zero, List.set_cons_succ]
    refine wpAnyH_take (i := 1) (oi := ⟨some 14, _, _, _, _, _⟩) (v := ?v1) rfl (by kernel_rfl) (by kernel_rfl) (by kernel_rfl) (fun _ _ _ h => h) (Or.inl ⟨by rfl, ?y1⟩) hHeld ?r1
    case y1 =>
      rintro w' ⟨q0, q1, q2, q3⟩
      go_simp
      try with_reducible rfl
    try simp only [Act.put, List.setIfInBounds_toArray, List.set_cons_zero, List.set_cons_succ]
    refine wpAnyH_take (i := 2) (oi := ⟨some 15, _, _, _, _, _⟩) (v := ?v2) rfl (by kernel_rfl) (by kernel_rfl) (by kernel_rfl) (fun _ _ _ h => h) (Or.inl ⟨by rfl, ?y2⟩) hHeld ?r2
    case y2 =>
      rintro w' ⟨q0, q1, q2, q3⟩
      go_simp
      try with_reducible rfl
    try simp only [Act.put, List.setIfInBounds_toArray, List.set_cons_zero, List.set_cons_succ]
    refine wpAnyH_take (i := 3) (oi := ⟨some 16, _, _, _, _, _⟩) (v := ?v3) rfl (by kernel_rfl) (by kernel_rfl) (by kernel_rfl) (fun _ _ _ h => h) (Or.inl ⟨by rfl, ?y3⟩) hHeld ?r3
    case y3 =>
      rintro w' ⟨q0, q1, q2, q3⟩
      have e1 : w'.cell? ⟨g, 0, none⟩ = some (.pointer (some ⟨dg, 0, none⟩)) := q1.cell 0
      go_simp
      try with_reducible rfl
    try simp only [Act.put, List.setIfInBounds_toArray, List.set_cons_zero, List.set_cons_succ]
    refine wpAnyH_take (i := 4) (oi := ⟨some 17, _, _, _, _, _⟩) (v := ?v4) rfl (by kernel_rfl) (by kernel_rfl) (by kernel_rfl) (fun _ _ _ h => h) (Or.inl ⟨by rfl, ?y4⟩) hHeld ?r4
    case y4 =>
      rintro w' ⟨q0, q1, q2, q3⟩
      have e2 : w'.cell? ⟨w.heap.size + 1, 0, none⟩ = some (.int .i64 (f : Int)) := q2.cell 0
      go_simp
      try with_reducible rfl
    try simp only [Act.put, List.setIfInBounds_toArray, List.set_cons_zero, List.set_cons_succ]
    refine wpAnyH_take (i := 5) (oi := ⟨some 18, _, _, _, _, _⟩) (v := ?v5) rfl (by kernel_rfl) (by kernel_rfl) (by kernel_rfl) (fun _ _ _ h => h) (Or.inl ⟨by rfl, ?y5⟩) hHeld ?r5
    case y5 =>
      rintro w' ⟨q0, q1, q2, q3⟩
      go_simp
      try with_reducible rfl
    try simp only [Act.put, List.setIfInBounds_toArray, List.set_cons_zero, List.set_cons_succ]
    refine wpAnyH_take (i := 6) (oi := ⟨some 19, _, _, _, _, _⟩) (v := ?v6) rfl (by kernel_rfl) (by kernel_rfl) (by kernel_rfl) (fun _ _ _ h => h) (Or.inl ⟨by rfl, ?y6⟩) hHeld ?r6
    case y6 =>
      rintro w' ⟨q0, q1, q2, q3⟩
      go_simp
      try with_reducible rfl
    try simp only [Act.put, List.setIfInBounds_toArray, List.set_cons_zero, List.set_cons_succ]
    refine wpAnyH_take (i := 7) (oi := ⟨some 20, _, _, _, _, _⟩) rfl (by kernel_rfl) (by kernel_rfl) (by kernel_rfl) (fun _ _ _ h => h) (yieldsIf_load_mid (by rfl) 89 (.tmp 8) rfl b8 0 ?x7 (bv xb) _ (fun _ hS => Row.all hS.2.2.2) Try.underlying89 rfl HIX.out) hHeld ?r7
    case x7 => first | rfl | (simp [Act.eval, go_sem]; done)
    try simp only [Act.put, List.setIfInBounds_toArray, List.set_cons_zero, List.set_cons_succ]
    refine wpAnyH_ready (rs := [8]) (by kernel_rfl) (by simp) ?_
    refine AllReadyH.cons rfl (fun K hK => ?_) AllReadyH.nil
    go_simp
    refine (HWR.out).mono ?_
    rintro e W2 ⟨rfl, F2, hd2, hx2, ho2⟩
    replace ho2 : Off Fm W W2 := ⟨ho2.os, ho2.tape, ho2.output, ho2.size, ho2.block⟩
    replace hx2 : Ext Fm F2 W W2 := hx2
    obtain ⟨er, her⟩ : ∃ er, (d'.writeM (f + ix) xb).2 = er := ⟨_, rfl⟩
    obtain ⟨d2, hd2e⟩ : ∃ d2, (d'.writeM (f + ix) xb).1 = d2 := ⟨_, rfl⟩
    rw [hd2e] at hd2
    rw [her]
    have R32 := Lib.hid ((ho2.block _ R3.out.lt HN3.out).trans R3.out)
    have R42 := Lib.hid ((ho2.block _ R4.out.lt HN4.out).trans R4.out)
    have R62 : Hid (Row W2 (w.heap.size + 2) 24 [.int .i64 0]) := ((ho2.block _ R6.out.lt HN6.out).trans R6.out)
    have R82 := Lib.hid ((ho2.block _ R8.out.lt HN8.out).trans R8.out)
    have RG2 := Lib.hid ((ho2.block _ RG.out.lt HNG.out).trans RG.out)
    have HOFF2 := Lib.hid ho2
    have HX2 := Lib.hid hx2
    have HD2 := Lib.hid hd2
    have HER := Lib.hid her
    have HD2E := Lib.hid hd2e
    clear ho2 hx2 hd2 her hd2e HWR
    refine hK _ _ ⟨R32.out, RG2.out, R42.out, R82.out⟩ (fun _ => ?_)
    clear hK K
    try simp only [Act.put, List.setIfInBounds_toArray, List.set_cons_zero, List.set_cons_succ]
    have c6 : W2.cell? ⟨w.heap.size + 1 + 1, 0, none⟩ = some (.int .i64 0) := R62.out.cell 0
    have f6 : W2.frozen? ⟨w.heap.size + 1 + 1, 0, none⟩ = false := R62.out.frozen 0
    refine wpAnyH_ready (rs := [9]) (by kernel_rfl) (by simp) ?_
    refine AllReadyH.cons rfl (fun K hK => ?_) AllReadyH.nil
    go_simp
    obtain ⟨W3, hW3⟩ : ∃ W3, W2.setCell ⟨w.heap.size + 1 + 1, 0, none⟩ (.int .i64 er) = W3 := ⟨_, rfl⟩
    have hs12 := Nat.le_trans HSZ.out HOFF2.out.size
    have R33 : Hid (Row W3 w.heap.size 30 [.pointer (some ⟨g, 0, none⟩)]) := by rw [← hW3]; exact Row.far R32.out (p := ⟨w.heap.size + 1 + 1, 0, none⟩) (by show w.heap.size ≠ w.heap.size + 1 + 1; omega) _
    have R43 : Hid (Row W3 (w.heap.size + 1) 3 [.int .i64 (f : Int)]) := by rw [← hW3]; exact Row.far R42.out (p := ⟨w.heap.size + 1 + 1, 0, none⟩) (by show w.heap.size + 1 ≠ w.heap.size + 1 + 1; omega) _
    have R63 : Hid (Row W3 (w.heap.size + 2) 24 [.int .i64 er]) := by rw [← hW3]; exact Row.store R62.out 0 _
    have R83 : Hid (Row W3 b8 89 (bv xb)) := by rw [← hW3]; exact Row.far R82.out (p := ⟨w.heap.size + 1 + 1, 0, none⟩) (by have := HN1.out; show b8 ≠ w.heap.size + 1 + 1; omega) _
    have RG3 : Hid (Row W3 g 83 (wcs dg area turn A m c used br)) := by rw [← hW3]; exact Row.far RG2.out (p := ⟨w.heap.size + 1 + 1, 0, none⟩) (by show g ≠ w.heap.size + 1 + 1; omega) _
    have hne6 : ∀ k, k ≠ w.heap.size + 2 → W3.heap[k]? = W2.heap[k]? := fun k hk => by rw [← hW3]; exact Below.heap_setCell W2 _ _ k hk
    have hsz3 : W3.heap.size = W2.heap.size := by rw [← hW3]; simp [World.setCell]
    have hwo : W3.os = W2.os ∧ W3.tape = W2.tape ∧ W3.output = W2.output := by rw [← hW3]; exact ⟨rfl, rfl, rfl⟩
    have hF26 : ∀ k, F2 k → k ≠ w.heap.size + 2 := fun k hk e => by
      subst e
      rcases HX2.out _ hk with h | h
      · exact HN6.out h
      · have := HSZ.out; omega
    have HD3 := Lib.hid (HD2.out.off (F' := fun k => k = w.heap.size + 2) hF26 ⟨hwo.1, hwo.2.1, hwo.2.2, Nat.le_of_eq hsz3.symm, fun k _ hk => hne6 k hk⟩)
    have HKF : Hid (KeepsFrom w1.heap.size W W3) := ⟨by rw [hsz3]; exact HOFF2.out.size, fun k o hk h0 ho => by
      have hk2 : ¬ Fm k := fun hf => by have := HCL.out k o hf h0; rw [ho] at this; cases this
      rw [hne6 k (by omega)]
      exact (HOFF2.out.block k (Array.getElem?_eq_some_iff.1 h0).1 hk2).trans h0⟩
    have HKP : Hid (KT (fun k => k < w.heap.size ∧ ¬ F k) W W3) := ⟨fun k hk => by
      rw [hne6 k (by have := hk.1; omega)]
      refine HOFF2.out.block k (Nat.lt_of_lt_of_le hk.1 (Nat.le_trans HB1.out.size HSZ.out)) (fun hf => ?_)
      rcases HFF.out k (HFMF.out k hf) with h | h
      · exact hk.2 h
      · have := hk.1; omega, fun k cs t ht hr => by
      have hk6 : k ≠ w.heap.size + 2 := fun e => by
        subst e
        have := row_type hr R6.out
        rcases ht with rfl | rfl <;> exact absurd this (by decide)
      show _ = _
      rw [hne6 k hk6]
      refine (HOFF2.out.block k hr.lt (fun hf => ?_)).trans hr
      rcases HTY.out k t cs hr hf with e | e | e
      · subst e
        have := row_type hr HDA.out.secs
        rcases ht with rfl | rfl <;> exact absurd this (by decide)
      · rcases ht with rfl | rfl <;> exact absurd e (by decide)
      · rcases ht with rfl | rfl <;> exact absurd e (by decide)⟩
    have HLI : Hid (LI w1 F dg w.heap.size g f er d2 W3) := ⟨⟨F2, HD3.out, fun k hk => by
      rcases HX2.out k hk with h | h
      · exact HFF.out k (HFMF.out k h)
      · exact .inr (Nat.le_trans HSZ.out h.1), ⟨by rw [hwo.1]; exact HOFF2.out.os.trans HOF.out.os, by rw [hwo.2.1]; exact HOFF2.out.tape.trans HOF.out.tape, by rw [hwo.2.2]; exact HOFF2.out.output.trans HOF.out.output, by rw [hsz3]; exact hs12, fun k hk hn => by
      have hk6 : k ≠ w.heap.size + 2 := fun e => hn (.inr e)
      rw [hne6 k hk6]
      refine (HOFF2.out.block k (Nat.lt_of_lt_of_le hk HSZ.out) (fun hf => ?_)).trans (HOF.out.block k hk hn)
      rcases HFF.out k (HFMF.out k hf) with h | h
      · exact hn (.inl h)
      · omega⟩⟩, R33.out, R43.out, R63.out, by rw [hsz3]; exact hs12⟩
    rw [hW3]
    clear hW3 hne6 hsz3 hwo hF26 hs12 c6 f6
    refine hK _ _ ⟨R33.out, RG3.out, R43.out, R83.out⟩ (fun _ => ?_)
    clear hK K
    try simp only [Act.put, List.setIfInBounds_toArray, List.set_cons_zero, List.set_cons_succ]
    refine wpAnyH_done (by kernel_rfl) ?_ _
    have hsn := layW_snoc (prs pre) (ix, xb) f d HZ.out
    rw [← HDE.out] at hsn
    have hmap : prs (pre ++ [(⟨(ix, xb), hx0, hx1, hx64⟩ : IB)]) = prs pre ++ [(ix, xb)] := by simp [prs]
    have e1 : (layW (prs (pre ++ [(⟨(ix, xb), hx0, hx1, hx64⟩ : IB)])) f d).1 = d2 := by rw [hmap, hsn]; exact HD2E.out
    have e2 : (layW (prs (pre ++ [(⟨(ix, xb), hx0, hx1, hx64⟩ : IB)])) f d).2 = er := by rw [hmap, hsn]; exact HER.out
    have E1 := Lib.hid e1
    have E2 := Lib.hid e2
    clear hsn hmap e1 e2
    have c63 : W3.cell? ⟨w.heap.size + 1 + 1, 0, none⟩ = some (.int .i64 er) := R63.out.cell 0
    have f63 : W3.frozen? ⟨w.heap.size + 1 + 1, 0, none⟩ = false := R63.out.frozen 0
    by_cases h0 : er = 0
    · subst h0
      gi_wp2
      refine ⟨HKF.out, HKP.out, by rw [E1.out]; exact HLI.out, E2.out, ?_⟩
      rw [E1.out, List.length_append, ← HD2E.out]
      have := HPL.out
      refine Nat.le_trans (write_pend d' (f + ix) xb) ?_
      simp only [List.length_cons, List.length_nil]
      omega
    · gi_wp2
      refine ⟨HKF.out.trans ((KeepsOthers.setCell _ _ _).from _), rfl, ?_, by rw [E2.out]; exact h0⟩
      rw [E1.out, E2.out]
      exact LI.store6 HLI.out (by omega) HLOW.out er
  case done =>
    rintro D xs W hD hS ⟨hLI, hz, hpl⟩ hK
    have hps : prs xs = L := hS
    rw [hps] at hLI hz hpl
    have hxl : xs.length = L.length := by rw [← hps]; simp [prs]
    obtain ⟨⟨F0, hdsk0, hF0, hoff⟩, b3, b4, b6, hsz⟩ := hLI
    obtain ⟨F', hdsk, hFm, hcells⟩ := disk_min hdsk0
    have hF' : ∀ k, F' k → F k ∨ w1.heap.size ≤ k := fun k hk => hF0 k (hFm k hk)
    have hDF : ¬ F' D := fun hf => by have := hcells D _ hf hK; cases this
    clear hF0 hFm hcells hdsk0
    have hrg : Row W g 83 (wcs dg area turn A m c used br) := ((hoff.block g (by omega) (fun h => h.elim hgF (fun e => by omega))).trans (HB1.out.block g hgl)).trans HW.out
    have e0 : W.cell? ⟨w.heap.size, 0, none⟩ = some (.pointer (some ⟨g, 0, none⟩)) := b3.cell 0
    have e1 : W.cell? ⟨g, 0, none⟩ = some (.pointer (some ⟨dg, 0, none⟩)) := hrg.cell 0
    have HSY := Lib.hid (sync_any dg _ F' W hdsk)
    have HFF := Lib.hid hF'
    have HOF := Lib.hid hoff
    have B3 := Lib.hid b3
    have B4 := Lib.hid b4
    have B6 := Lib.hid b6
    have HSZ : Hid (w1.heap.size ≤ W.heap.size) := hsz
    have HK := Lib.hid hK
    have HZ := Lib.hid hz
    have HDS := Lib.hid hdsk
    clear hF' hoff b3 b4 b6 hsz hK hz hpl hps hrg hdsk hL0
    gi_wp2_with fail
    go_wp2_with fail
    refine (HSY.out).mono ?_
    rintro e W2 ⟨rfl, F2, hd2, hx2, ho2⟩
    obtain ⟨er, her⟩ : ∃ er, (layW L f d).1.syncM.2 = er := ⟨_, rfl⟩
    obtain ⟨d2, hd2e⟩ : ∃ d2, (layW L f d).1.syncM.1 = d2 := ⟨_, rfl⟩
    rw [hd2e] at hd2
    rw [her]
    have hLM : layM L f d = (d2, er) := by
      unfold layM
      rw [if_neg (by simp [HZ.out]), ← hd2e, ← her]
    have hnF : ∀ k, k < w1.heap.size → ¬ F k → ¬ F' k := fun k hk hn hf => by
      rcases HFF.out k hf with h | h
      · exact hn h
      · omega
    have hnB : ∀ j, ¬ F (w.heap.size + j) := fun j hf => by have := HLOW.out _ hf; omega
    have R32 : Row W2 w.heap.size 30 [.pointer (some ⟨g, 0, none⟩)] := (ho2.block _ B3.out.lt (hnF _ (by omega) (hnB 0))).trans B3.out
    have R42 : Row W2 (w.heap.size + 1) 3 [.int .i64 (f : Int)] := (ho2.block _ B4.out.lt (hnF _ (by omega) (hnB 1))).trans B4.out
    have R62 : Row W2 (w.heap.size + 2) 24 [.int .i64 0] := (ho2.block _ B6.out.lt (hnF _ (by omega) (hnB 2))).trans B6.out
    have hLI2 : LI w1 F dg w.heap.size g f 0 d2 W2 := ⟨⟨F2, hd2, fun k hk => by
      rcases hx2 k hk with h | h
      · exact HFF.out k h
      · exact .inr (Nat.le_trans HSZ.out h.1), ⟨ho2.os.trans HOF.out.os, ho2.tape.trans HOF.out.tape, ho2.output.trans HOF.out.output, Nat.le_trans HSZ.out ho2.size, fun k hk hn => (ho2.block k (Nat.lt_of_lt_of_le hk HSZ.out) (hnF k hk (fun h => hn (.inl h)))).trans (HOF.out.block k hk hn)⟩⟩, R32, R42, R62, Nat.le_trans HSZ.out ho2.size⟩
    have HK2 : Hid (W2.heap[D]? = some (.deferred (some []))) := (ho2.block D (Array.getElem?_eq_some_iff.1 HK.out).1 hDF).trans HK.out
    have c6 : W2.cell? ⟨w.heap.size + 1 + 1, 0, none⟩ = some (.int .i64 0) := R62.cell 0
    have f6 : W2.frozen? ⟨w.heap.size + 1 + 1, 0, none⟩ = false := R62.frozen 0
    have HLI3 := Lib.hid (LI.store6 hLI2 (by omega) HLOW.out er)
    have HLM := Lib.hid hLM
    clear hLI2 hLM R32 R42 R62 hd2 hx2 ho2 her hd2e hnF hnB
    go_wp2
    rw [HLM.out]
    refine lay_end HW.out hgF HLOW.out HB1.out hs1 HLI3.out hD ?_ rfl
    exact (Below.heap_setCell W2 _ _ D (by show D ≠ w.heap.size + 1 + 1; omega)).trans HK2.out
  case stop =>
    rintro D cd pre W hD hS ⟨rfl, hLI, hne⟩ hK
    gi_wp2_with fail
    have hps : layW L f d = layW (prs pre) f d := by
      obtain ⟨qs, hq⟩ := hS
      rw [← hq]
      exact layW_pre _ _ _ _ hne
    have hLM : layM L f d = layW (prs pre) f d := by
      unfold layM
      rw [hps, if_pos hne]
    rw [hLM]
    exact lay_end HW.out hgF HLOW.out HB1.out hs1 hLI hD hK rfl
end Go.Proofs.Yteemdjamgbbjhaa.Wl

/-
  A chain's next frame.
-/
namespace Go.Proofs.Yteemdjamgbbjhaa.Wl
set_option maxRecDepth 100000
open Go.RowKit Go.Shelf Go.Proofs.Yteemdjamgbbjhaa.Wd Go.Proofs.Yteemdjamgbbjhaa.Dsk Go.Proofs.Yteemdjamgbbjhaa.Oct Go.Proofs.Yteemdjamgbbjhaa.Sum

/-- a slice of bytes, in a row of its own -/
def By (w : World) (A : Option Addr) (n c : Nat) (l : List UInt8) : Prop := w.ownsRow 0 5 1 (.slice A n c) n (bv l)
theorem own_zero {w : World} {base : Nat} {e : TypeId} {v : Value} {n : Nat} {xs : List Value} (h : w.ownsRow base e 1 v n xs) : w.ownsRow 0 e 1 v n xs := by
  rcases h with ⟨hl, hv | ⟨g, cap, cur, hv, hb, hr⟩⟩
  · exact ⟨hl, .inl hv⟩
  · exact ⟨hl, .inr ⟨g, cap, cur, hv, Nat.zero_le _, hr⟩⟩
theorem own_kept {w w' : World} {e : TypeId} {v : Value} {n : Nat} {xs : List Value} (h : w.ownsRow 0 e 1 v n xs) (hk : ∀ g, v.ownBlock = some g → g < w.heap.size → w'.heap[g]? = w.heap[g]?) : w'.ownsRow 0 e 1 v n xs := by
  rcases h with ⟨hl, hv | ⟨g, cap, cur, hv, hb, hg, hr⟩⟩
  · exact ⟨hl, .inl hv⟩
  · exact ⟨hl, .inr ⟨g, cap, cur, hv, hb, (hk g (by rw [hv]; rfl) (Array.getElem?_eq_some_iff.1 hg).1).trans hg, hr⟩⟩
theorem By.sl {w : World} {A : Option Addr} {n c : Nat} {l : List UInt8} (h : By w A n c l) : Sl w w.heap.size A n c l := by
  obtain ⟨A', c', e, hl, hn, hc, hA, hb, _⟩ := own_bs h
  cases e
  exact ⟨hl, hn, hc, hA, hb⟩
theorem clone_own (A : Option Addr) (l : List UInt8) (c n : Nat) (w : World) (h : Sl w w.heap.size A n c l) (hm : n ≤ 140737488355328) :
    Calls Try.prog 66 #[.slice A n c] w fun e w' => ∃ A' c', e = .returned (.slice A' n c') ∧ By w' A' n c' l ∧ (∀ k, (Value.slice A' n c').ownBlock = some k → w.heap.size ≤ k) ∧ Below w.heap.size w w' := by
  have q37 : ∀ (w : World) (a : Option Addr) (n c n' c' : Nat), (binOp .eql 37 (.slice a n c) (.slice none n' c')).run Try.prog w = .ok (.bool a.isNone) w := fun w a n c n' c' => Lib.run_eql_slice_nil w _ _ a n c n' c' Try.underlying37
  have HH := Lib.hid h
  obtain ⟨hl, hc, hcm, hA, hb⟩ := h
  obtain ⟨i0, hi, hz0, hz1, hz2⟩ := info_parts info5
  cases A with
  | none =>
    obtain rfl := hA rfl
    obtain rfl : n = 0 := by omega
    clear hl hA hb hc hcm
    go_enter Try.func66, Try.ntmps66
    go_wp2
    go_ret
    exact ⟨none, 0, rfl, by rw [List.eq_nil_of_length_eq_zero HH.out.len]; exact World.ownsRow_nil _ _ _ _, (fun k hk => by cases hk), Below.refl _ _⟩
  | some a =>
    have HL := Lib.hid hl
    clear hl
    go_enter Try.func66, Try.ntmps66
    go_wp2_with (at_builtin; refine wpList_append_bs rfl _ _ 37 rfl w.heap.size 5 i0 (.int .u8 0) Try.underlying37 hi hz0 hz1 hz2 rfl (.slice (some ⟨w.heap.size, 0, none⟩) 0 0) 0 [] rfl ?own (some a) n c l rfl HL.out w.heap.size (hb.alloc (Nat.le_refl _) _) hA (by omega) (by simp) ?_)
    case own => exact World.ownsRow_made w #[] 0 (Nat.le_refl _) (Nat.zero_le _) rfl
    intro v w2 hown2 hg2
    have hown3 : w2.ownsRow w.heap.size 5 1 v n (bv l) := by simpa using hown2
    obtain ⟨A2, c2, rfl, hl2, hn2, hc2, hA2, hbs2, hk2⟩ := own_bs (l := l) hown3
    have HO3 := Lib.hid (own_zero hown3)
    clear hown3
    go_wp2
    go_ret
    refine ⟨A2, c2, by simp, HO3.out, ?_, ((Below.refl _ w).alloc (Nat.le_refl _) _).grown hg2 (by simp) (by intro k hk; simp [Value.ownBlock] at hk; omega)⟩
    intro k hk
    refine hk2 k ?_
    simpa [Value.ownBlock] using hk
theorem size81 : (Try.prog.info? 81).map (·.size) = some 3 := by kernel_rfl
def nofr : List Value := [.int .u32 0, .int .u32 0, .slice none 0 0]
theorem fcs_one (t k : Nat) (A : Option Addr) (n c : Nat) : ∀ v ∈ fcs t k A n c, v.oneCell' = true := by
  intro v hv
  simp only [fcs, List.mem_cons, List.not_mem_nil, or_false] at hv
  rcases hv with rfl | rfl | rfl <;> rfl
theorem ccs_one (t : Nat) (A : Option Addr) (n c u : Nat) : ∀ v ∈ ccs t A n c u, v.oneCell' = true := by
  intro v hv
  simp only [ccs, List.mem_cons, List.not_mem_nil, or_false] at hv
  rcases hv with rfl | rfl | rfl <;> rfl
set_option maxHeartbeats 4000000 in
/-- the frame of bytes behind a chain -/
theorem next_any (t n c u : Nat) (A : Option Addr) (A2 : Option Addr) (m c2 : Nat) (b : List UInt8) (w : World) (hs : Sl w w.heap.size A2 m c2 b) (hm : m ≤ 40000) (hn : n < 4294967296) (ht : t < 4294967296) :
    Calls Try.prog 56 #[.agg (ccs t A n c u).toArray, .slice A2 m c2] w fun e w' => ∃ A' c', e = .returned (.agg (fcs t n A' m c').toArray) ∧ By w' A' m c' b ∧ (∀ k, (Value.slice A' m c').ownBlock = some k → w.heap.size ≤ k) ∧ Below w.heap.size w w' := by
  have mixed : Try.prog.follows .mixedOrders = true := by kernel_rfl
  have HS := Lib.hid hs
  have hn32 : IntKind.u32.wrap (n : Int) = n := by rw [IntKind.wrap_u32]; omega
  clear hs
  go_enter Try.func56, Try.ntmps56
  go_wp2_with fail
  refine nw fun w1 hw1 => ?_
  have hb1 : Below w.heap.size w w1 := by
    rw [← hw1]
    exact ((Below.refl _ _).alloc (Nat.le_refl _) _).alloc (by simp) _
  have hs1 : w1.heap.size = w.heap.size + 2 := by rw [← hw1]; simp
  have r1 : Row w1 w.heap.size 81 (ccs t A n c u) := by rw [← hw1]; exact (Row.new w _ _).alloc _
  have r3 : Row w1 (w.heap.size + 1) 101 nofr := by
    rw [← hw1]
    have := Row.new (w.alloc (.cells (ccs t A n c u).toArray 81)) 101 nofr
    rw [World.size_alloc] at this
    exact this
  have R1 := Lib.hid r1
  have R3 := Lib.hid r3
  have HB1 := Lib.hid hb1
  have HSZ : Hid (w.heap.size + 2 ≤ w1.heap.size) := Lib.hid (Nat.le_of_eq hs1.symm)
  have HS1 := Lib.hid ((HS.out.below hb1).more hb1.size)
  clear hw1 hb1 hs1 r1 r3
  refine wp_region_held_drew (S := (fun w' => Row w' w.heap.size 81 (ccs t A n c u))) (by kernel_rfl) R1.out (fun hHeld => ?_)
  refine wpAnyH_take (i := 0) (oi := ⟨some 5, _, _, _, _, _⟩) (v := ?v0) rfl (by kernel_rfl) (by kernel_rfl) (by kernel_rfl) (fun _ _ _ h => h) (Or.inl ⟨by rfl, ?y0⟩) hHeld ?r0
  case y0 =>
    rintro w' hSw
    go_simp
    try with_reducible rfl
  try simp only [Act.put, List.setIfInBounds_toArray, List.set_cons_zero, List.set_cons_succ]
  refine wpAnyH_take (i := 1) (oi := ⟨some 6, _, _, _, _, _⟩) (v := ?v1) rfl (by kernel_rfl) (by kernel_rfl) (by kernel_rfl) (fun _ _ _ h => h) (Or.inl ⟨by rfl, ?y1⟩) hHeld ?r1
  case y1 =>
    rintro w' hSw
    have c0 : w'.cell? ⟨w.heap.size, 0, none⟩ = some (.int .u32 (t : Int)) := hSw.cell 0
    go_simp
    try with_reducible rfl
  try simp only [Act.put, List.setIfInBounds_toArray, List.set_cons_zero, List.set_cons_succ]
  refine wpAnyH_take (i := 2) (oi := ⟨some 7, _, _, _, _, _⟩) (v := ?v2) rfl (by kernel_rfl) (by kernel_rfl) (by kernel_rfl) (fun _ _ _ h => h) (Or.inl ⟨by rfl, ?y2⟩) hHeld ?r2
  case y2 =>
    rintro w' hSw
    go_simp
    try with_reducible rfl
  try simp only [Act.put, List.setIfInBounds_toArray, List.set_cons_zero, List.set_cons_succ]
  refine wpAnyH_take (i := 3) (oi := ⟨some 8, _, _, _, _, _⟩) (v := ?v3) rfl (by kernel_rfl) (by kernel_rfl) (by kernel_rfl) (fun _ _ _ h => h) (Or.inl ⟨by rfl, ?y3⟩) hHeld ?r3
  case y3 =>
    rintro w' hSw
    have c1 : w'.cell? ⟨w.heap.size, 1, none⟩ = some (.slice A n c) := hSw.cell 1
    go_simp
    try with_reducible rfl
  try simp only [Act.put, List.setIfInBounds_toArray, List.set_cons_zero, List.set_cons_succ]
  refine wpAnyH_take (i := 4) (oi := ⟨some 9, _, _, _, _, _⟩) (v := ?v4) rfl (by kernel_rfl) (by kernel_rfl) (by kernel_rfl) (fun _ _ _ h => h) (Or.inl ⟨by rfl, ?y4⟩) hHeld ?r4
  case y4 =>
    rintro w' hSw
    go_simp
    try with_reducible rfl
  try simp only [Act.put, List.setIfInBounds_toArray, List.set_cons_zero, List.set_cons_succ]
  refine wpAnyH_take (i := 5) (oi := ⟨some 10, _, _, _, _, _⟩) (v := ?v5) rfl (by kernel_rfl) (by kernel_rfl) (by kernel_rfl) (fun _ _ _ h => h) (Or.inl ⟨by rfl, ?y5⟩) hHeld ?r5
  case y5 =>
    rintro w' hSw
    go_simp
    try with_reducible rfl
  try simp only [Act.put, List.setIfInBounds_toArray, List.set_cons_zero, List.set_cons_succ]
  refine wpAnyH_take (i := 6) (oi := ⟨some 11, _, _, _, _, _⟩) (v := ?v6) rfl (by kernel_rfl) (by kernel_rfl) (by kernel_rfl) (fun _ _ _ h => h) (Or.inl ⟨by rfl, ?y6⟩) hHeld ?r6
  case y6 =>
    rintro w' hSw
    go_simp
    try with_reducible rfl
  try simp only [Act.put, List.setIfInBounds_toArray, List.set_cons_zero, List.set_cons_succ]
  refine wpAnyH_ready (rs := [7]) (by kernel_rfl) (by simp) ?_
  refine AllReadyH.cons rfl (fun K hK => ?_) AllReadyH.nil
  go_simp
  refine (clone_own A2 b c2 m w1.drew (show Sl w1.drew w1.heap.size _ _ _ _ from ⟨HS1.out.len, HS1.out.cap, HS1.out.most, HS1.out.nil, HS1.out.bs.drew⟩) (by omega)).mono ?_
  rintro e w2 ⟨A', c', rfl, hsl, hown, hb2⟩
  replace hb2 : Below w1.heap.size w1 w2 := undrew hb2
  replace hown : ∀ k, (Value.slice A' m c').ownBlock = some k → w1.heap.size ≤ k := hown
  have R12 := Lib.hid (R1.out.below hb2 R1.out.lt)
  have R32 := Lib.hid (R3.out.below hb2 R3.out.lt)
  have HB2 := Lib.hid (HB1.out.trans (hb2.mono HB1.out.size))
  have HSL := Lib.hid hsl
  have HOW := Lib.hid hown
  clear hb2 hsl hown
  refine hK _ _ R12.out (fun _ => ?_)
  clear hK K
  try simp only [Act.put, List.setIfInBounds_toArray, List.set_cons_zero, List.set_cons_succ]
  refine wpAnyH_take (i := 8) (oi := ⟨some 13, _, _, _, _, _⟩) (v := ?v8) rfl (by kernel_rfl) (by kernel_rfl) (by kernel_rfl) (fun _ _ _ h => h) (Or.inl ⟨by rfl, ?y8⟩) R12.out ?r8
  case y8 =>
    rintro w' hSw
    go_simp
    try with_reducible rfl
  try simp only [Act.put, List.setIfInBounds_toArray, List.set_cons_zero, List.set_cons_succ]
  refine wpAnyH_ready (rs := [9]) (by kernel_rfl) (by simp) ?_
  refine AllReadyH.cons rfl (fun K hK => ?_) AllReadyH.nil
  have HLB : Hid ((Try.prog.info? 101).map (·.size) = some (fcs t n A' m c').length) := Lib.hid size101
  rw [if_pos (by rfl)]
  refine wp_store_whole 101 (.tmp 4) (.tmp 13) rfl (w.heap.size + 1) (fcs t n A' m c') rfl rfl _ _ R32.out (by rfl) (fcs_one _ _ _ _ _) HLB.out ?_
  intro w3 hr3 hg3
  have HB3 := Lib.hid (HB2.out.grown hg3 HB2.out.size (fun j hj => by cases hj; omega))
  have R13 := Lib.hid (R12.out.grown hg3 (by simp))
  have HSL3 := Lib.hid (own_kept HSL.out fun b' hb' _ => hg3.block b' (by assumption) (fun e => by cases e; have := HOW.out _ hb'; have := HSZ.out; omega))
  have HRES := Lib.hid (run_loadVar_mid (P := Try.prog) w3 (w.heap.size + 1) 0 101 (fcs t n A' m c') _ (Row.all hr3) Try.underlying101 rfl HLB.out)
  have HOW2 : Hid (∀ k, (Value.slice A' m c').ownBlock = some k → w.heap.size ≤ k) := Lib.hid fun k hk => by have := HOW.out k hk; have := HSZ.out; omega
  refine hK _ _ R13.out (fun _ => ?_)
  clear hK K
  try simp only [Act.put, List.setIfInBounds_toArray, List.set_cons_zero, List.set_cons_succ]
  refine wpAnyH_done (by kernel_rfl) ?_ _
  go_wp2
  exact bodyPost_ret (v := .agg (fcs t n A' m c').toArray) (results_cell (p := 4) (ty := 101) rfl _ _ ⟨w.heap.size + 1, 0, none⟩ _ rfl HRES.out) rfl ⟨A', c', rfl, HSL3.out, HOW2.out, HB3.out⟩
end Go.Proofs.Yteemdjamgbbjhaa.Wl

/-
  A chain with a frame behind it.
-/
namespace Go.Proofs.Yteemdjamgbbjhaa.Wl
set_option maxRecDepth 100000
open Go.RowKit Go.Shelf Go.Proofs.Yteemdjamgbbjhaa.Wd Go.Proofs.Yteemdjamgbbjhaa.Dsk Go.Proofs.Yteemdjamgbbjhaa.Oct Go.Proofs.Yteemdjamgbbjhaa.Sum

theorem info37 : (Try.prog.info? 37).map (fun i => (i.zero, i.size, i.bytes)) = some (some (.slice none 0 0), 1, 24) := by kernel_rfl
theorem own_below {w w' : World} {e : TypeId} {v : Value} {n : Nat} {xs : List Value} (h : w.ownsRow 0 e 1 v n xs) (hb : Below w.heap.size w w') : w'.ownsRow 0 e 1 v n xs := own_kept h fun g _ hg => hb.block g hg
theorem own_lt {w : World} {e : TypeId} {v : Value} {n g : Nat} {xs : List Value} (h : w.ownsRow 0 e 1 v n xs) (hv : v.ownBlock = some g) : g < w.heap.size := by
  rcases h with ⟨hl, hv' | ⟨g', cap, cur, hv', hb, hg, hr⟩⟩
  · rw [hv'.1] at hv; cases hv
  · rw [hv'] at hv
    cases hv
    exact (Array.getElem?_eq_some_iff.1 hg).1
theorem grown_of_below {w W W' : World} {row : Option Nat} (hb : Below w.heap.size w W) (hg : W.grownBy W' row) : w.grownBy W' row :=
  ⟨hg.os.trans hb.os, hg.tape.trans hb.tape, hg.output.trans hb.output, Nat.le_trans hb.size hg.size, fun k hk hn => (hg.block k (Nat.lt_of_lt_of_le hk hb.size) hn).trans (hb.block k hk)⟩
theorem grown_set {w W : World} {row : Option Nat} (hg : w.grownBy W row) {p : Addr} (hp : w.heap.size ≤ p.block) (v : Value) : w.grownBy (W.setCell p v) row :=
  ⟨hg.os, hg.tape, hg.output, by simpa [World.setCell] using hg.size, fun k hk hn => (Below.heap_setCell W p v k (by omega)).trans (hg.block k hk hn)⟩
theorem grown_far {w W W' : World} {row : Option Nat} {b : Nat} (hg : w.grownBy W row) (hg2 : W.grownBy W' (some b)) (hb : w.heap.size ≤ b) : w.grownBy W' row :=
  ⟨hg2.os.trans hg.os, hg2.tape.trans hg.tape, hg2.output.trans hg.output, Nat.le_trans hg.size hg2.size, fun k hk hn => (hg2.block k (Nat.lt_of_lt_of_le hk hg.size) (fun e => by cases e; omega)).trans (hg.block k hk hn)⟩
/-- where an append lies: in the row that was, or in a new block -/
theorem append_place {P : Program} {w w' : World} {t ty e : TypeId} {i : TypeInfo} {z : Value} {size bytes : Nat} (ht : P.underlying t = some (.slice e)) (hi : P.info? e = some i) (hz : i.zero = some z)
    (hsize : i.size = size) (hby : i.bytes = bytes) (hzs : z.cells.size = size) (hsz : 0 < size) {v v' : Value} {n : Nat} {xs : List Value} (hown : w.ownsRow 0 e size v n xs) {a : Addr} {m c : Nat} {news : List Value} (hl : news.length = m * size) (hnews : ∀ j u, news[j]? = some u → w.cell? (a.add j) = some u) (h1 : ∀ u ∈ news, u.oneCell' = true)
    (h63 : n + m ≤ maxLen) (hbytes : (n + m) * bytes ≤ 140737488355328) (hr : (Builtin.append_ #[t, t] ty #[v, .slice (some a) m c]).run P w = .ok v' w') : ∀ b, v'.ownBlock = some b → v.ownBlock = some b ∨ w.heap.size ≤ b := by
  subst hsize
  subst hby
  intro b hb
  rcases id hown.2 with ⟨rfl, rfl⟩ | ⟨g, cap, cur, rfl, hbg, hg, hnc, hcm, hcs, htake⟩
  · obtain ⟨v2, w2, hr2, ho2, _, _⟩ := run_append_own (P := P) w w.heap.size t ty e i z i.size i.bytes ht hi hz rfl rfl hzs hsz (.slice none 0 0) 0 [] (World.ownsRow_nil _ _ _ _) a m c news hl hnews h1 h63 hbytes (Nat.le_refl _)
    rw [hr] at hr2
    cases hr2
    rcases ho2.2 with ⟨hv, _⟩ | ⟨g, cap, cur, hv, hbg, _⟩
    · rw [hv] at hb; cases hb
    · rw [hv] at hb
      cases hb
      exact .inr hbg
  · by_cases hroom : n + m ≤ cap
    · have hfit : n * i.size + news.length ≤ cur.size := by rw [hl, hcs, ← Nat.add_mul]; exact Nat.mul_le_mul_right _ hroom
      have hr2 := run_append_room (P := P) w t ty e i ht hi g n cap cur hg a m c news hl hnews h1 hroom hfit
      rw [hr] at hr2
      cases hr2
      exact .inl hb
    · have holds : ∀ j u, xs[j]? = some u → w.cell? ((⟨g, 0, none⟩ : Addr).add j) = some u := hown.cells (g := g) rfl
      have hr2 := run_append_grow (P := P) w t ty e i z ht hi hz ⟨g, 0, none⟩ n cap xs hown.1 holds a m c news hl hnews (by omega) (by unfold maxLen at h63; omega) (growslice_fits (by omega) hbytes)
      rw [hr] at hr2
      cases hr2
      cases hb
      exact .inr (Nat.le_refl _)
/-- an append to an own row of single cells: where it lies, too -/
theorem wpList_append_placed {P : Program} {w : World} {ops : Array Oper} {rest : List Oper} {o : Oper} {a : Act} {Q : Exit → Act → World → Prop} (hgd : Region.wanted o (yielded ops a.tmps) = true) (s x : Operand) (t : TypeId)
    (ho : o.op = .call { callee := .builtin .append, args := #[s, x], argTypes := #[t, t] })
    (e : TypeId) (i : TypeInfo) (z : Value) (bytes : Nat) (ht : P.underlying t = some (.slice e)) (hi : P.info? e = some i) (hz : i.zero = some z) (hsize : i.size = 1) (hby : i.bytes = bytes) (hzs : z.cells.size = 1)
    (v : Value) (n : Nat) (xs : List Value) (hs : a.eval s = v) (hown : w.ownsRow 0 e 1 v n xs)
    (ad : Addr) (m c : Nat) (news : List Value) (hx : a.eval x = .slice (some ad) m c) (hl : news.length = m * 1) (hnews : ∀ j u, news[j]? = some u → w.cell? (ad.add j) = some u) (h1 : ∀ u ∈ news, u.oneCell' = true)
    (h63 : n + m ≤ maxLen) (hbytes : (n + m) * bytes ≤ 140737488355328)
    (h : ∀ v' w', w'.ownsRow 0 e 1 v' (n + m) (xs ++ news) → w.grownBy w' v.ownBlock → (∀ b, v'.ownBlock = some b → v.ownBlock = some b ∨ w.heap.size ≤ b) → wpList P ops Q rest (a.put o.dst v') w') : wpList P ops Q (o :: rest) a w := by
  obtain ⟨v', w', hr, h2, h3, h4⟩ := run_append_own (P := P) w 0 t o.type e i z 1 bytes ht hi hz hsize hby hzs (by decide) v n xs hown ad m c news hl hnews h1 h63 hbytes (Nat.zero_le _)
  have hp := append_place ht hi hz hsize hby hzs (by decide) hown hl hnews h1 h63 hbytes hr
  refine wpList_wanted hgd fun K hK => ?_
  unfold Oper.wp
  simp [execOp, ho, resolve, invoke, builtin, hs, hx, hr, Result.andThen]
  exact hK _ _ (h v' w' h2 h3 hp)
def noch : List Value := [.int .u32 0, .slice none 0 0, .int .i64 0]
set_option maxHeartbeats 4000000 in
theorem with_any (t n c u : Nat) (A : Option Addr) (xs : List Value) (t2 k : Nat) (A2 : Option Addr) (m c2 : Nat) (w : World) (hown : w.ownsRow 0 37 1 (.slice A n c) n xs) (hm : m ≤ 40000) (hu : u ≤ 100000) (hn : n ≤ 100000) :
    Calls Try.prog 59 #[.agg (ccs t A n c u).toArray, .agg (fcs t2 k A2 m c2).toArray] w fun e w' => ∃ A' c', e = .returned (.agg (ccs t A' (n + 1) c' (u + sects m)).toArray) ∧ w'.ownsRow 0 37 1 (.slice A' (n + 1) c') (n + 1) (xs ++ [.slice A2 m c2]) ∧
      (∀ b, (Value.slice A' (n + 1) c').ownBlock = some b → (Value.slice A n c).ownBlock = some b ∨ w.heap.size ≤ b) ∧ w.grownBy w' (Value.slice A n c).ownBlock := by
  have mixed : Try.prog.follows .mixedOrders = true := by kernel_rfl
  have HO := Lib.hid hown
  obtain ⟨i0, hi0, hz0, hz1, hz2⟩ := info_parts info37
  clear hown
  have k0 : (ccs t A n c u)[0]? = some (.int .u32 (t : Int)) := rfl
  have k1 : (ccs t A n c u)[1]? = some (.slice A n c) := rfl
  have k2 : (ccs t A n c u)[2]? = some (.int .i64 (u : Int)) := rfl
  have k3 : (fcs t2 k A2 m c2)[2]? = some (.slice A2 m c2) := rfl
  have HOB : Hid (∀ W, Below w.heap.size w W → W.ownsRow 0 37 1 (.slice A n c) n xs) := Lib.hid fun W hb => own_below HO.out hb
  go_enter Try.func59, Try.ntmps59
  go_wp2_with (at_builtin; refine wpList_append_placed rfl _ _ 58 rfl 37 i0 (.slice none 0 0) 24 Try.underlying58 hi0 hz0 hz1 hz2 rfl (.slice A n c) n xs rfl (HOB.out _ ((((Below.refl _ _).alloc (Nat.le_refl _) _).alloc (by simp) _).alloc (by simp; omega) _ |>.alloc (by simp; omega) _)) ⟨w.heap.size + 1 + 1 + 1, 0, none⟩ 1 1 [.slice A2 m c2] rfl rfl ?hnews (fun u hu => by cases hu with | head => rfl | tail _ h => cases h) (by unfold maxLen; omega) (by omega) ?_)
  case hnews =>
    intro j v hj
    cases j with
    | zero =>
      cases hj
      go_simp
    | succ j => cases hj
  intro v4 w4 hown4 hg4 hp4
  have hAw : ∀ b, (Value.slice A n c).ownBlock = some b → b < w.heap.size := fun b hb => own_lt HO.out hb
  obtain ⟨A4, c4, rfl⟩ : ∃ A4 c4, v4 = .slice A4 (n + 1) c4 := by
    rcases hown4.2 with ⟨_, h0⟩ | ⟨g', cap, cur, hv, _⟩
    · omega
    · exact ⟨_, _, hv⟩
  have r1 : Row w4 w.heap.size 81 (ccs t A n c u) := by
    refine Row.grown ?_ hg4 (fun e => by have := hAw _ e.symm; omega)
    exact (((Row.new w _ _).alloc _).alloc _).alloc _
  have r2 : Row w4 (w.heap.size + 1) 101 (fcs t2 k A2 m c2) := by
    refine Row.grown ?_ hg4 (fun e => by have := hAw _ e.symm; omega)
    have := Row.new (w.alloc (.cells (ccs t A n c u).toArray 81)) 101 (fcs t2 k A2 m c2)
    rw [World.size_alloc] at this
    exact (this.alloc _).alloc _
  have r3 : Row w4 (w.heap.size + 2) 81 noch := by
    refine Row.grown ?_ hg4 (fun e => by have := hAw _ e.symm; omega)
    have := Row.new ((w.alloc (.cells (ccs t A n c u).toArray 81)).alloc (.cells (fcs t2 k A2 m c2).toArray 101)) 81 noch
    rw [World.size_alloc, World.size_alloc] at this
    exact this.alloc _
  have hgw : w.grownBy w4 (Value.slice A n c).ownBlock := grown_of_below ((((Below.refl _ _).alloc (Nat.le_refl _) _).alloc (by simp) _).alloc (by simp; omega) _ |>.alloc (by simp; omega) _) hg4
  have hp5 : ∀ b, (Value.slice A4 (n + 1) c4).ownBlock = some b → (Value.slice A n c).ownBlock = some b ∨ w.heap.size ≤ b := fun b hb => by
    rcases hp4 b hb with h | h
    · exact .inl h
    · exact .inr (by omega)
  -- the own row is none of the boxes
  have hnb : ∀ b cs t', Row w4 b t' cs → t' ≠ 37 → (Value.slice A4 (n + 1) c4).ownBlock ≠ some b := fun b cs t' hr ht e => by
    rcases hown4.2 with ⟨hv, _⟩ | ⟨g', cap, cur, hv, _, hg', _⟩
    · rw [hv] at e; cases e
    · rw [hv] at e
      cases e
      have h0 : Row w4 g' 37 cur.toList := by show _ = _; simpa using hg'
      exact ht (row_type hr h0)
  have hn1 := hnb _ _ _ r1 (by decide)
  have hn3 := hnb _ _ _ r3 (by decide)
  have c1 : w4.cell? ⟨w.heap.size, 1, none⟩ = some (.slice A n c) := r1.cell 1
  have f1 : w4.frozen? ⟨w.heap.size, 1, none⟩ = false := r1.frozen 1
  have r15 : Row (w4.setCell ⟨w.heap.size, 1, none⟩ (.slice A4 (n + 1) c4)) w.heap.size 81 (ccs t A4 (n + 1) c4 u) := r1.store 1 _
  have r25 : Row (w4.setCell ⟨w.heap.size, 1, none⟩ (.slice A4 (n + 1) c4)) (w.heap.size + 1) 101 (fcs t2 k A2 m c2) := Row.far r2 (p := ⟨w.heap.size, 1, none⟩) (by show w.heap.size + 1 ≠ w.heap.size; omega) _
  have r35 : Row (w4.setCell ⟨w.heap.size, 1, none⟩ (.slice A4 (n + 1) c4)) (w.heap.size + 2) 81 noch := Row.far r3 (p := ⟨w.heap.size, 1, none⟩) (by show w.heap.size + 2 ≠ w.heap.size; omega) _
  have o5 : (w4.setCell ⟨w.heap.size, 1, none⟩ (.slice A4 (n + 1) c4)).ownsRow 0 37 1 (.slice A4 (n + 1) c4) (n + 1) (xs ++ [.slice A2 m c2]) := own_kept hown4 fun b hb _ => Below.heap_setCell w4 _ _ b (fun e => hn1 (by rw [hb]; exact congrArg some e))
  have g5 := grown_set hgw (p := ⟨w.heap.size, 1, none⟩) (Nat.le_refl _) (.slice A4 (n + 1) c4)
  obtain ⟨w5, hw5⟩ : ∃ w5, w4.setCell ⟨w.heap.size, 1, none⟩ (.slice A4 (n + 1) c4) = w5 := ⟨_, rfl⟩
  rw [hw5] at r15 r25 r35 o5 g5
  have R1 := Lib.hid r15
  have R2 := Lib.hid r25
  have R3 := Lib.hid r35
  have O5 := Lib.hid o5
  have G5 := Lib.hid g5
  have HP := Lib.hid hp5
  have HN1 := Lib.hid hn1
  have HN3 := Lib.hid hn3
  clear r15 r25 r35 o5 g5 hp5 hp4 hn1 hn3 hnb hgw hg4 hAw hown4 r1 r2 r3 HOB k0 k1 k2 k3
  go_wp2_with fail
  clear hw5 c1 f1
  have hsm : IntKind.i64.wrap ((u : Int) + (sects m : Int)) = ((u + sects m : Nat) : Int) := by
    rw [IntKind.wrap_i64]
    have := sects_most m hm
    omega
  refine wp_region_held_drew (S := (fun w' => Row w' (w.heap.size + 1) 101 (fcs t2 k A2 m c2))) (by kernel_rfl) R2.out (fun hHeld => ?_)
  refine wpAnyH_take (i := 0) (oi := ⟨some 12, _, _, _, _, _⟩) (v := ?v0) rfl (by kernel_rfl) (by kernel_rfl) (by kernel_rfl) (fun _ _ _ h => h) (Or.inl ⟨by rfl, ?y0⟩) hHeld ?r0
  case y0 =>
    rintro w' hSw
    go_simp
    try with_reducible rfl
  try simp only [Act.put, List.setIfInBounds_toArray, List.set_cons_zero, List.set_cons_succ]
  refine wpAnyH_take (i := 2) (oi := ⟨some 14, _, _, _, _, _⟩) (v := ?v2) rfl (by kernel_rfl) (by kernel_rfl) (by kernel_rfl) (fun _ _ _ h => h) (Or.inl ⟨by rfl, ?y2⟩) hHeld ?r2
  case y2 =>
    rintro w' hSw
    go_simp
    try with_reducible rfl
  try simp only [Act.put, List.setIfInBounds_toArray, List.set_cons_zero, List.set_cons_succ]
  refine wpAnyH_take (i := 3) (oi := ⟨some 15, _, _, _, _, _⟩) (v := ?v3) rfl (by kernel_rfl) (by kernel_rfl) (by kernel_rfl) (fun _ _ _ h => h) (Or.inl ⟨by rfl, ?y3⟩) hHeld ?r3
  case y3 =>
    rintro w' hSw
    have e3 : w'.cell? ⟨w.heap.size + 1, 2, none⟩ = some (.slice A2 m c2) := hSw.cell 2
    go_simp
    try with_reducible rfl
  try simp only [Act.put, List.setIfInBounds_toArray, List.set_cons_zero, List.set_cons_succ]
  refine wpAnyH_take (i := 4) (oi := ⟨some 16, _, _, _, _, _⟩) (v := ?v4) rfl (by kernel_rfl) (by kernel_rfl) (by kernel_rfl) (fun _ _ _ h => h) (Or.inl ⟨by rfl, ?y4⟩) hHeld ?r4
  case y4 =>
    rintro w' hSw
    go_simp
    try with_reducible rfl
  try simp only [Act.put, List.setIfInBounds_toArray, List.set_cons_zero, List.set_cons_succ]
  have cc2 : w5.drew.cell? ⟨w.heap.size, 2, none⟩ = some (.int .i64 (u : Int)) := R1.out.cell 2
  have ff2 : w5.drew.frozen? ⟨w.heap.size, 2, none⟩ = false := R1.out.frozen 2
  have HSE := Lib.hid (sectors_any m w5.drew hm)
  have H2D : Hid (Row w5.drew (w.heap.size + 1) 101 (fcs t2 k A2 m c2)) := R2.out
  have hcast : ((u : Int) + (sects m : Int)) = ((u + sects m : Nat) : Int) := by simp
  have HCA := Lib.hid hcast
  clear hcast
  have R17 : Hid (Row (w5.setCell ⟨w.heap.size, 2, none⟩ (.int .i64 ((u : Int) + (sects m : Int)))).drew w.heap.size 81 (ccs t A4 (n + 1) c4 (u + sects m))) := by
    rw [HCA.out]
    exact Row.drew (Row.store R1.out 2 _)
  have R27 : Hid (Row (w5.setCell ⟨w.heap.size, 2, none⟩ (.int .i64 ((u : Int) + (sects m : Int)))).drew (w.heap.size + 1) 101 (fcs t2 k A2 m c2)) := Row.drew (Row.far R2.out (p := ⟨w.heap.size, 2, none⟩) (by show w.heap.size + 1 ≠ w.heap.size; omega) _)
  have R37 : Hid (Row (w5.setCell ⟨w.heap.size, 2, none⟩ (.int .i64 ((u : Int) + (sects m : Int)))).drew (w.heap.size + 2) 81 noch) := Row.drew (Row.far R3.out (p := ⟨w.heap.size, 2, none⟩) (by show w.heap.size + 2 ≠ w.heap.size; omega) _)
  have O7 : Hid ((w5.setCell ⟨w.heap.size, 2, none⟩ (.int .i64 ((u : Int) + (sects m : Int)))).drew.ownsRow 0 37 1 (.slice A4 (n + 1) c4) (n + 1) (xs ++ [.slice A2 m c2])) := own_kept O5.out fun b hb _ => Below.heap_setCell w5 _ _ b (fun e => HN1.out (by rw [hb]; exact congrArg some e))
  have G7 : Hid (w.grownBy (w5.setCell ⟨w.heap.size, 2, none⟩ (.int .i64 ((u : Int) + (sects m : Int)))).drew (Value.slice A n c).ownBlock) := ⟨G5.out.os, G5.out.tape, G5.out.output, by simpa [World.setCell] using G5.out.size, (grown_set G5.out (p := ⟨w.heap.size, 2, none⟩) (Nat.le_refl _) _).block⟩
  refine wpAnyH_ready (rs := [1, 5]) (by kernel_rfl) (by simp) ?_
  refine AllReadyH.cons rfl (fun K hK => ?_) (AllReadyH.cons rfl (fun K hK => ?_) AllReadyH.nil)
  · go_simp
    refine hK _ _ H2D.out (fun _ => ?_)
    clear hK K
    try simp only [Act.put, List.setIfInBounds_toArray, List.set_cons_zero, List.set_cons_succ]
    refine wpAnyH_ready (rs := [5]) (by kernel_rfl) (by simp) ?_
    refine AllReadyH.cons rfl (fun K hK => ?_) AllReadyH.nil
    go_simp
    refine (HSE.out).mono ?_
    rintro e w6 ⟨rfl, hw6⟩
    subst hw6
    refine hK _ _ H2D.out (fun _ => ?_)
    clear hK K
    try simp only [Act.put, List.setIfInBounds_toArray, List.set_cons_zero, List.set_cons_succ]
    refine wpAnyH_take (i := 6) (oi := ⟨some 18, _, _, _, _, _⟩) (v := ?v6p) rfl (by kernel_rfl) (by kernel_rfl) (by kernel_rfl) (fun _ _ _ h => h) (Or.inl ⟨by rfl, ?y6p⟩) H2D.out ?r6p
    case y6p =>
      rintro w' hSw
      go_simp
      try with_reducible rfl
    try simp only [Act.put, List.setIfInBounds_toArray, List.set_cons_zero, List.set_cons_succ]
    refine wpAnyH_take (i := 7) (oi := ⟨some 19, _, _, _, _, _⟩) (v := ?v7p) rfl (by kernel_rfl) (by kernel_rfl) (by kernel_rfl) (fun _ _ _ h => h) (Or.inl ⟨by rfl, ?y7p⟩) H2D.out ?r7p
    case y7p =>
      rintro w' hSw
      go_simp
      try with_reducible rfl
    try simp only [Act.put, List.setIfInBounds_toArray, List.set_cons_zero, List.set_cons_succ]
    refine wpAnyH_ready (rs := [8]) (by kernel_rfl) (by simp) ?_
    refine AllReadyH.cons rfl (fun K hK => ?_) AllReadyH.nil
    go_simp
    refine hK _ _ R27.out (fun _ => ?_)
    clear hK K
    try simp only [Act.put, List.setIfInBounds_toArray, List.set_cons_zero, List.set_cons_succ]
    refine wpAnyH_done (by kernel_rfl) ?_ _
    generalize (w5.setCell ⟨w.heap.size, 2, none⟩ (.int .i64 ((u : Int) + (sects m : Int)))).drew = w7 at R17 R27 R37 O7 G7 ⊢
    have HI := Lib.hid (show (Try.prog.info? 81).map (·.size) = some (ccs t A4 (n + 1) c4 (u + sects m)).length from size81)
    have HLE := Lib.hid (show (ccs t A4 (n + 1) c4 (u + sects m)).length = noch.length from rfl)
    go_wp2_with (first
      | (with_reducible refine wpList_load_row (op := ⟨some 20, _, _, _, _, _⟩) ?_ 81 (.tmp 2) ?_ w.heap.size 0 ?_ (ccs t A4 (n + 1) c4 (u + sects m)) _ (Row.all R17.out) Try.underlying81 ?_ HI.out ?_)
      | (with_reducible refine wpList_store_whole (op := ⟨none, _, _, _, _, _⟩) ?_ 81 (.tmp 4) (.tmp 20) ?_ (w.heap.size + 2) (ccs t A4 (n + 1) c4 (u + sects m)) ?_ ?_ 81 noch R37.out HLE.out (ccs_one _ _ _ _ _) HI.out ?_))
    all_goals try (first | rfl | (simp; done))
    intro w8 hr8 hg8
    have HRES := Lib.hid (run_loadVar_mid (P := Try.prog) w8 (w.heap.size + 2) 0 81 (ccs t A4 (n + 1) c4 (u + sects m)) _ (Row.all hr8) Try.underlying81 rfl HI.out)
    have O8 := Lib.hid (own_kept O7.out fun b hb hlt => hg8.block b hlt (fun e => HN3.out (hb.trans e)))
    have G8 := Lib.hid (grown_far G7.out hg8 (by omega))
    clear hr8 hg8
    go_wp2
    exact bodyPost_ret (v := .agg (ccs t A4 (n + 1) c4 (u + sects m)).toArray) (results_cell (p := 4) (ty := 81) rfl _ _ ⟨w.heap.size + 2, 0, none⟩ _ rfl HRES.out) rfl ⟨A4, c4, rfl, O8.out, HP.out, G8.out⟩
  · go_simp
    refine (HSE.out).mono ?_
    rintro e w6 ⟨rfl, hw6⟩
    subst hw6
    refine hK _ _ H2D.out (fun _ => ?_)
    clear hK K
    try simp only [Act.put, List.setIfInBounds_toArray, List.set_cons_zero, List.set_cons_succ]
    refine wpAnyH_ready (rs := [1]) (by kernel_rfl) (by simp) ?_
    refine AllReadyH.cons rfl (fun K hK => ?_) AllReadyH.nil
    go_simp
    refine hK _ _ H2D.out (fun _ => ?_)
    clear hK K
    try simp only [Act.put, List.setIfInBounds_toArray, List.set_cons_zero, List.set_cons_succ]
    refine wpAnyH_take (i := 6) (oi := ⟨some 18, _, _, _, _, _⟩) (v := ?v6q) rfl (by kernel_rfl) (by kernel_rfl) (by kernel_rfl) (fun _ _ _ h => h) (Or.inl ⟨by rfl, ?y6q⟩) H2D.out ?r6q
    case y6q =>
      rintro w' hSw
      go_simp
      try with_reducible rfl
    try simp only [Act.put, List.setIfInBounds_toArray, List.set_cons_zero, List.set_cons_succ]
    refine wpAnyH_take (i := 7) (oi := ⟨some 19, _, _, _, _, _⟩) (v := ?v7q) rfl (by kernel_rfl) (by kernel_rfl) (by kernel_rfl) (fun _ _ _ h => h) (Or.inl ⟨by rfl, ?y7q⟩) H2D.out ?r7q
    case y7q =>
      rintro w' hSw
      go_simp
      try with_reducible rfl
    try simp only [Act.put, List.setIfInBounds_toArray, List.set_cons_zero, List.set_cons_succ]
    refine wpAnyH_ready (rs := [8]) (by kernel_rfl) (by simp) ?_
    refine AllReadyH.cons rfl (fun K hK => ?_) AllReadyH.nil
    go_simp
    refine hK _ _ R27.out (fun _ => ?_)
    clear hK K
    try simp only [Act.put, List.setIfInBounds_toArray, List.set_cons_zero, List.set_cons_succ]
    refine wpAnyH_done (by kernel_rfl) ?_ _
    generalize (w5.setCell ⟨w.heap.size, 2, none⟩ (.int .i64 ((u : Int) + (sects m : Int)))).drew = w7 at R17 R27 R37 O7 G7 ⊢
    have HI := Lib.hid (show (Try.prog.info? 81).map (·.size) = some (ccs t A4 (n + 1) c4 (u + sects m)).length from size81)
    have HLE := Lib.hid (show (ccs t A4 (n + 1) c4 (u + sects m)).length = noch.length from rfl)
    go_wp2_with (first
      | (with_reducible refine wpList_load_row (op := ⟨some 20, _, _, _, _, _⟩) ?_ 81 (.tmp 2) ?_ w.heap.size 0 ?_ (ccs t A4 (n + 1) c4 (u + sects m)) _ (Row.all R17.out) Try.underlying81 ?_ HI.out ?_)
      | (with_reducible refine wpList_store_whole (op := ⟨none, _, _, _, _, _⟩) ?_ 81 (.tmp 4) (.tmp 20) ?_ (w.heap.size + 2) (ccs t A4 (n + 1) c4 (u + sects m)) ?_ ?_ 81 noch R37.out HLE.out (ccs_one _ _ _ _ _) HI.out ?_))
    all_goals try (first | rfl | (simp; done))
    intro w8 hr8 hg8
    have HRES := Lib.hid (run_loadVar_mid (P := Try.prog) w8 (w.heap.size + 2) 0 81 (ccs t A4 (n + 1) c4 (u + sects m)) _ (Row.all hr8) Try.underlying81 rfl HI.out)
    have O8 := Lib.hid (own_kept O7.out fun b hb hlt => hg8.block b hlt (fun e => HN3.out (hb.trans e)))
    have G8 := Lib.hid (grown_far G7.out hg8 (by omega))
    clear hr8 hg8
    go_wp2
    exact bodyPost_ret (v := .agg (ccs t A4 (n + 1) c4 (u + sects m)).toArray) (results_cell (p := 4) (ty := 81) rfl _ _ ⟨w.heap.size + 2, 0, none⟩ _ rfl HRES.out) rfl ⟨A4, c4, rfl, O8.out, HP.out, G8.out⟩
end Go.Proofs.Yteemdjamgbbjhaa.Wl

/-
  Disks by type, logs in memory; what iterators tell, as lay asks for it.
-/
namespace Go.Proofs.Yteemdjamgbbjhaa.Wl
set_option maxRecDepth 100000
open Go.RowKit Go.Shelf Go.Proofs.Yteemdjamgbbjhaa.Wd Go.Proofs.Yteemdjamgbbjhaa.Dsk Go.Proofs.Yteemdjamgbbjhaa.Oct Go.Proofs.Yteemdjamgbbjhaa.Sum

/-- the blocks of F are of a disk's types -/
def TyF (w : World) (F : Nat → Prop) : Prop := ∀ k t cs, Row w k t cs → F k → t = 77 ∨ t = 89 ∨ t = 121
def Dk (w : World) (F : Nat → Prop) (g : Nat) (d : DM) : Prop := Disk w F g d ∧ TyF w F
theorem dk_min {F : Nat → Prop} {g : Nat} {d : DM} {W : World} (h : Disk W F g d) : ∃ Fm : Nat → Prop, Dk W Fm g d ∧ ∀ k, Fm k → F k := by
  obtain ⟨⟨gs, A, c, hda⟩, hlt⟩ := h
  have hF : ∀ k, (k = g ∨ k = gs ∨ (Value.slice A d.pend.length c).ownBlock = some k) → F k := fun k hk => by
    rcases hk with rfl | rfl | hk
    · exact hda.fg
    · exact hda.fs
    · exact (hda.own k hk).1
  refine ⟨fun k => k = g ∨ k = gs ∨ (Value.slice A d.pend.length c).ownBlock = some k, ⟨⟨⟨gs, A, c, .inl rfl, .inr (.inl rfl), hda.ne, fun k hk => ⟨.inr (.inr hk), (hda.own k hk).2⟩, hda.row, hda.secs, hda.pend, hda.good⟩, fun k hk => hlt k (hF k hk)⟩, fun k t cs hr hk => ?_⟩, hF⟩
  rcases hk with rfl | rfl | hk
  · exact .inl (row_type hr hda.row)
  · exact .inr (.inl (row_type hr hda.secs))
  · rcases hda.pend with ⟨_, hv | ⟨gp, cap, cur, hv, _, hgp, _⟩⟩
    · rw [hv.1] at hk; cases hk
    · rw [hv] at hk
      cases hk
      have h0 : Row W gp 121 cur.toList := by show _ = _; simpa using hgp
      exact .inr (.inr (row_type hr h0))
theorem Dk.below {w w' : World} {F : Nat → Prop} {g : Nat} {d : DM} (h : Dk w F g d) (hb : Below w.heap.size w w') : Dk w' F g d :=
  ⟨h.1.below hb, fun k t cs hr hk => h.2 k t cs ((hb.block k (h.1.2 k hk)).symm.trans hr) hk⟩
theorem Dk.not {w : World} {F : Nat → Prop} {g k : Nat} {t : TypeId} {cs : List Value} {d : DM} (h : Dk w F g d) (hr : Row w k t cs) (h1 : t ≠ 77) (h2 : t ≠ 121) (h3 : t ≠ 89) : ¬ F k := fun hk => by
  rcases h.2 k t cs hr hk with e | e | e
  · exact h1 e
  · exact h3 e
  · exact h2 e
/-- lay, its disk by type -/
theorem lay_dk (g dg area turn m c used : Nat) (A : Option Addr) (br : Bool) (f : Nat) (gf : FuncId) (lb : Array Value) (L : List (Int × List UInt8)) (d : DM) (F : Nat → Prop) (w : World)
    (hw : Row w g 83 (wcs dg area turn A m c used br)) (hd : Dk w F dg d) (hp : d.pend.length + L.length ≤ 1000000) (hf : f ≤ 10000)
    (heg : ∀ args w, (callFunc gf args).run Try.prog w = .ok (.enter gf args) w)
    (hseq : ∀ w1, Below w.heap.size w w1 → SeqStopsK Fence.wide 8 Try.prog gf lb encI (KT (fun k => k < w.heap.size ∧ ¬ F k)) (fun xs => xs.map (·.1) = L) (fun pre => pre.map (·.1) <+: L) L.length w1) :
    Calls Try.prog 45 #[.pointer (some ⟨g, 0, none⟩), .int .i64 (f : Int), .func (.func gf) #[] lb] w fun e w' => e = .returned (.int .i64 (layM L f d).2) ∧
      ∃ F', Dk w' F' dg (layM L f d).1 ∧ Ext F F' w w' ∧ Off (fun k => F k ∨ k = g) w w' ∧ Row w' g 83 (wcs dg area turn A m c used (br || decide ((layM L f d).2 ≠ 0))) := by
  refine (lay_any g dg area turn m c used A br f gf lb L d F w hw (hd.not hw (by decide) (by decide) (by decide)) hd.1 hp hf heg hseq).mono ?_
  rintro e w' ⟨he, F', h1, h2, h3, h4, _⟩
  obtain ⟨Fm, h5, h6⟩ := dk_min h1
  exact ⟨he, Fm, h5, fun k hk => h2 k (h6 k hk), h3, h4⟩
theorem parts_seq {w : World} {F : Nat → Prop} {Bf t k m c : Nat} {A : Option Addr} {b : List UInt8} (hf : Row w Bf 101 (fcs t k A m c)) (hs : By w A m c b) (hm : m ≤ 40000) (ht : t < 4294967296) (hk : k < 4294967296) :
    ∀ w1, Below w.heap.size w w1 → SeqStopsK Fence.wide 8 Try.prog 78 #[.pointer (some ⟨Bf, 0, none⟩)] encI (KT (fun k => k < w.heap.size ∧ ¬ F k)) (fun xs => xs.map (·.1) = pairsM t k b) (fun pre => pre.map (·.1) <+: pairsM t k b) (pairsM t k b).length w1 := by
  intro w1 hb1 l J Jx W hW hJ hJx hY h0
  have hb : Below w.heap.size w W := hb1.trans (hW.mono hb1.size)
  have hl := hs.sl.len
  have hlen : (pairsM t k b).length = sects b.length := by simp [pairsM]
  rw [hlen] at hY
  exact parts_in l Bf t k 8 m c A b (by omega) (by omega) ht hk _ J Jx W hJ hY (hf.below hb hf.lt) ((hs.sl.below hb).more hb.size) h0
theorem all_seq {w : World} {F : Nat → Prop} {Bf c : Nat} {A : Option Addr} {L : List (List UInt8)} (hn : L.length ≤ 100000) (hf : Row w Bf 72 [.slice A L.length c]) (hs : Bls w (fun k => k < w.heap.size ∧ ¬ F k) A L) :
    ∀ w1, Below w.heap.size w w1 → SeqStopsK Fence.wide 8 Try.prog 71 #[.pointer (some ⟨Bf, 0, none⟩)] encI (KT (fun k => k < w.heap.size ∧ ¬ F k)) (fun xs => xs.map (·.1) = (List.range L.length).map (fun (i : Nat) => ((i : Int), L.getD i nought))) (fun pre => pre.map (·.1) <+: (List.range L.length).map (fun (i : Nat) => ((i : Int), L.getD i nought))) ((List.range L.length).map (fun (i : Nat) => ((i : Int), L.getD i nought))).length w1 := by
  intro w1 hb1 l J Jx W hW hJ hJx hY h0
  have hb : Below w.heap.size w W := hb1.trans (hW.mono hb1.size)
  rw [List.length_map, List.length_range] at hY
  refine all_in l Bf 8 c A L (by omega) hn _ J Jx W hJ hY ((hf.below hb hf.lt).cell 0) (fun hp => ?_) (fun k hk => Nat.lt_of_lt_of_le hk.1 hb.size) h0
  obtain ⟨g, o, e, hk, hbk⟩ := hs hp
  exact ⟨g, o, e, hk, hbk.same (hb.block g hk.1)⟩
end Go.Proofs.Yteemdjamgbbjhaa.Wl

/-
  A turn begins.
-/
namespace Go.Proofs.Yteemdjamgbbjhaa.Wl
set_option maxRecDepth 100000
open Go.RowKit Go.Shelf Go.Proofs.Yteemdjamgbbjhaa.Wd Go.Proofs.Yteemdjamgbbjhaa.Dsk Go.Proofs.Yteemdjamgbbjhaa.Oct Go.Proofs.Yteemdjamgbbjhaa.Sum

theorem size106 : (Try.prog.info? 106).map (·.size) = some 2 := by kernel_rfl
theorem hcs_one (t a : Nat) : ∀ v ∈ hcs t a, v.oneCell' = true := by
  intro v hv
  simp only [hcs, List.mem_cons, List.not_mem_nil, or_false] at hv
  rcases hv with rfl | rfl <;> rfl
theorem place_any (t a : Nat) (w : World) (ht : t < 4294967296) : Calls Try.prog 72 #[.agg (hcs t a).toArray] w fun e w' => e = .returned (.int .i64 ((t % 2 : Nat) : Int)) ∧ Below w.heap.size w w' := by
  have k0 : (hcs t a)[0]? = some (.int .u32 (t : Int)) := rfl
  go_enter Try.func72, Try.ntmps72
  go_wp2
  go_ret
  exact ⟨ret_int (by simp), (Below.refl _ _).alloc (Nat.le_refl _) _⟩
theorem info89 : ∃ ie, Try.prog.info? 89 = some ie ∧ ie.zero = some (.agg (bv nought).toArray) ∧ ie.size = 64 := by
  have h : (Try.prog.info? 89).map (fun i => (i.zero, i.size)) = some (some (.agg (bv nought).toArray), 64) := by kernel_rfl
  cases hi : Try.prog.info? 89 with
  | none => rw [hi] at h; cases h
  | some ie =>
    rw [hi] at h
    simp only [Option.map_some, Option.some.injEq, Prod.mk.injEq] at h
    exact ⟨ie, rfl, h.1, h.2⟩
theorem nought_len : (bv nought).length = 64 := rfl
/-- what a beginning of a turn does to a disk -/
def beginM (t area : Nat) (b : List UInt8) (d : DM) : DM × Int :=
  if (layM (pairsM t 0 b) ((2 + t % 2 * area : Nat) : Int) d).2 ≠ 0 then layM (pairsM t 0 b) ((2 + t % 2 * area : Nat) : Int) d
  else layM [(0, headB t area)] ((t % 2 : Nat) : Int) (layM (pairsM t 0 b) ((2 + t % 2 * area : Nat) : Int) d).1
/-- what a log has when a turn has begun -/
def Begun (w w' : World) (g dg area t : Nat) (b : List UInt8) (m : Nat) (br : Bool) : Prop :=
  ∃ A c Ab cb, Row w' g 83 (wcs dg area t A 1 c (sects m) br) ∧ w'.ownsRow 0 37 1 (.slice A 1 c) 1 [.slice Ab m cb] ∧ By w' Ab m cb b ∧
    (∀ k, (Value.slice A 1 c).ownBlock = some k → w.heap.size ≤ k) ∧ ∀ k, (Value.slice Ab m cb).ownBlock = some k → w.heap.size ≤ k
theorem lay_pend (L : List (Int × List UInt8)) (f : Int) (d : DM) : (layM L f d).1.pend.length ≤ d.pend.length + L.length := by
  have hW : ∀ (L : List (Int × List UInt8)) (d : DM), (layW L f d).1.pend.length ≤ d.pend.length + L.length := by
    intro L
    induction L with
    | nil => intro d; exact Nat.le_refl _
    | cons p ps ih =>
      intro d
      have h1 := write_pend d (f + p.1) p.2
      show (if _ then _ else _ : DM × Int).1.pend.length ≤ _
      split
      · simp only [List.length_cons]; omega
      · have := ih (d.writeM (f + p.1) p.2).1
        simp only [List.length_cons]; omega
  unfold layM
  split
  · exact hW L d
  · have h1 := hW L d
    have h2 : (layW L f d).1.syncM.1.pend.length ≤ (layW L f d).1.pend.length := by
      unfold DM.syncM
      split
      · exact Nat.zero_le _
      · rw [pre_pend]; exact Nat.le_refl _
    omega
set_option maxHeartbeats 8000000 in
theorem begin_any (g dg area turn n c used : Nat) (A : Option Addr) (br : Bool) (t : Nat) (A2 : Option Addr) (m c2 : Nat) (b : List UInt8) (d : DM) (F : Nat → Prop) (w : World)
    (hw : Row w g 83 (wcs dg area turn A n c used br)) (hd : Dk w F dg d) (hs : Sl w w.heap.size A2 m c2 b) (hm : m ≤ 40000) (ha : area ≤ 1000) (ht : t < 4294967296) (hp : d.pend.length ≤ 900000) :
    Calls Try.prog 47 #[.pointer (some ⟨g, 0, none⟩), .int .u32 (t : Int), .slice A2 m c2] w fun e w' => e = .returned (.int .i64 (beginM t area b d).2) ∧
      ∃ F', Dk w' F' dg (beginM t area b d).1 ∧ Ext F F' w w' ∧ Off (fun k => F k ∨ k = g) w w' ∧
        ((beginM t area b d).2 ≠ 0 → Row w' g 83 (wcs dg area turn A n c used true)) ∧ ((beginM t area b d).2 = 0 → Begun w w' g dg area t b m br) := by
  have mixed : Try.prog.follows .mixedOrders = true := by kernel_rfl
  have hml : b.length = m := hs.len
  have HS := Lib.hid hs
  have HW := Lib.hid hw
  have HD := Lib.hid hd
  have k1 : (ccs t none 0 0 0).length = 3 := rfl
  clear hs hw hd
  go_enter Try.func47, Try.ntmps47
  go_wp2_with fail
  have r1 : Row (w.alloc (.cells #[.int .u32 (t : Int), .slice none 0 0, .int .i64 0] 81)) w.heap.size 81 (ccs t none 0 0 0) := Row.new w _ _
  have hb1 : Below w.heap.size w (w.alloc (.cells #[.int .u32 (t : Int), .slice none 0 0, .int .i64 0] 81)) := (Below.refl _ _).alloc (Nat.le_refl _) _
  generalize w.alloc (.cells #[.int .u32 (t : Int), .slice none 0 0, .int .i64 0] 81) = w1 at r1 hb1 ⊢
  refine (next_any t 0 0 0 none A2 m c2 b w1 ((HS.out.below hb1).more hb1.size) hm (by omega) ht).mono ?_
  rintro e w2 ⟨Ab, cb, rfl, hby, hab, hb2⟩
  have R72 := Lib.hid (r1.below hb2 r1.lt)
  have HB2 := Lib.hid (hb1.trans (hb2.mono hb1.size))
  have HBY := Lib.hid hby
  have HAB : Hid (∀ k, (Value.slice Ab m cb).ownBlock = some k → w.heap.size ≤ k) := Lib.hid fun k hk => Nat.le_trans hb1.size (hab k hk)
  have HLC := Lib.hid (show (fcs t 0 Ab m cb).length = nofr.length from rfl)
  have HI := Lib.hid (show (Try.prog.info? 101).map (·.size) = some (fcs t 0 Ab m cb).length from size101)
  clear hby hab hb2 hb1 r1
  go_wp2_with (first
    | (with_reducible refine wpList_store_whole (op := ⟨none, _, _, _, _, _⟩) ?_ 101 (.tmp 8) (.tmp 16) ?_ w2.heap.size (fcs t 0 Ab m cb) ?_ ?_ 101 nofr ?hrow HLC.out (fcs_one _ _ _ _ _) HI.out ?_))
  case hrow => exact Row.new w2 _ nofr
  all_goals try (first | rfl | (simp; done))
  intro w3 hr3 hg3
  have hb3 : Below w2.heap.size w2 w3 := ((Below.refl _ _).alloc (Nat.le_refl _) _).grown hg3 (by simp) (fun k hk => by cases hk; exact Nat.le_refl _)
  have hs23 : w2.heap.size < w3.heap.size := hr3.lt
  obtain ⟨b8, hb8⟩ : ∃ b8, w2.heap.size = b8 := ⟨_, rfl⟩
  have hb8w : w.heap.size ≤ b8 := by rw [← hb8]; exact HB2.out.size
  rw [hb8] at hr3
  have R73 := Lib.hid (R72.out.below hb3 R72.out.lt)
  have R83 := Lib.hid hr3
  have HB3 := Lib.hid (HB2.out.trans (hb3.mono HB2.out.size))
  have HBY3 := Lib.hid (own_below HBY.out hb3)
  have HB8 := Lib.hid hb8w
  clear hr3 hg3 hb3 hs23 hb8w
  go_wp2_with fail
  rw [hb8]
  clear hb8
  obtain ⟨d1, hd1⟩ : ∃ d1, (layM (pairsM t 0 b) ((2 + t % 2 * area : Nat) : Int) d).1 = d1 := ⟨_, rfl⟩
  obtain ⟨er, her⟩ : ∃ er, (layM (pairsM t 0 b) ((2 + t % 2 * area : Nat) : Int) d).2 = er := ⟨_, rfl⟩
  have HD1 := Lib.hid hd1
  have HER := Lib.hid her
  have hpd1 : d1.pend.length ≤ 910000 := by
    rw [← hd1]
    have h1 := lay_pend (pairsM t 0 b) ((2 + t % 2 * area : Nat) : Int) d
    have h2 : (pairsM t 0 b).length = sects b.length := by simp [pairsM]
    have h3 := sects_most b.length (by omega)
    omega
  clear hd1 her
  have h0 : Row w3 g 83 (wcs dg area turn A n c used br) := HW.out.below HB3.out HW.out.lt
  have HF := Lib.hid (first_any g dg area turn used n c A br t w3.drew (Row.drew h0) ha ht)
  have HI8 := Lib.hid (show (Try.prog.info? 101).map (·.size) = some (fcs t 0 Ab m cb).length from size101)
  refine wp_region_held_drew (S := (fun w' => Row w' b8 101 (fcs t 0 Ab m cb))) (by kernel_rfl) R83.out (fun hHeld => ?_)
  refine wpAnyH_take (i := 0) (oi := ⟨some 17, _, _, _, _, _⟩) (v := ?v0) rfl (by kernel_rfl) (by kernel_rfl) (by kernel_rfl) (fun _ _ _ h => h) (Or.inl ⟨by rfl, ?y0⟩) hHeld ?r0
  case y0 =>
    rintro w' hSw
    go_simp
    try with_reducible rfl
  try simp only [Act.put, List.setIfInBounds_toArray, List.set_cons_zero, List.set_cons_succ]
  refine wpAnyH_take (i := 1) (oi := ⟨some 18, _, _, _, _, _⟩) (v := ?v1) rfl (by kernel_rfl) (by kernel_rfl) (by kernel_rfl) (fun _ _ _ h => h) (Or.inl ⟨by rfl, ?y1⟩) hHeld ?r1
  case y1 =>
    rintro w' hSw
    go_simp
    try with_reducible rfl
  try simp only [Act.put, List.setIfInBounds_toArray, List.set_cons_zero, List.set_cons_succ]
  refine wpAnyH_take (i := 2) (oi := ⟨some 19, _, _, _, _, _⟩) (v := ?v2) rfl (by kernel_rfl) (by kernel_rfl) (by kernel_rfl) (fun _ _ _ h => h) (Or.inl ⟨by rfl, ?y2⟩) hHeld ?r2
  case y2 =>
    rintro w' hSw
    go_simp
    try with_reducible rfl
  try simp only [Act.put, List.setIfInBounds_toArray, List.set_cons_zero, List.set_cons_succ]
  refine wpAnyH_take (i := 4) (oi := ⟨some 21, _, _, _, _, _⟩) rfl (by kernel_rfl) (by kernel_rfl) (by kernel_rfl) (fun _ _ _ h => h) (yieldsIf_load_mid (by rfl) 101 (.tmp 8) rfl b8 0 ?x4 (fcs t 0 Ab m cb) _ (fun _ hS => Row.all hS) Try.underlying101 rfl HI8.out) hHeld ?r4
  case x4 => first | rfl | (simp [Act.eval, go_sem]; done)
  try simp only [Act.put, List.setIfInBounds_toArray, List.set_cons_zero, List.set_cons_succ]
  refine wpAnyH_ready (rs := [3]) (by kernel_rfl) (by simp) ?_
  refine AllReadyH.cons rfl (fun K hK => ?_) AllReadyH.nil
  go_simp
  refine (HF.out).mono ?_
  rintro e w4 ⟨rfl, hw4⟩
  subst hw4
  refine hK _ _ R83.out (fun _ => ?_)
  clear hK K
  try simp only [Act.put, List.setIfInBounds_toArray, List.set_cons_zero, List.set_cons_succ]
  refine wpAnyH_ready (rs := [5]) (by kernel_rfl) (by simp) ?_
  refine AllReadyH.cons rfl (fun K hK => ?_) AllReadyH.nil
  go_simp
  refine (parts_any t 0 Ab m cb w3.drew).mono ?_
  rintro e w5 ⟨rfl, hw5⟩
  have r95 : Row w5 w3.heap.size 101 (fcs t 0 Ab m cb) := by rw [hw5]; exact Row.new w3.drew _ _
  have hb5 : Below w3.heap.size w3 w5 := by rw [hw5]; exact (Below.refl _ _).drew.alloc (Nat.le_refl _) _
  clear hw5
  have R75 := Lib.hid (R73.out.below hb5 R73.out.lt)
  have R85 := Lib.hid (R83.out.below hb5 R83.out.lt)
  have HB5 := Lib.hid (HB3.out.trans (hb5.mono HB3.out.size))
  have HBY5 := Lib.hid (own_below HBY3.out hb5)
  have R95 := Lib.hid r95
  clear hb5 r95
  refine hK _ _ R85.out (fun _ => ?_)
  clear hK K
  try simp only [Act.put, List.setIfInBounds_toArray, List.set_cons_zero, List.set_cons_succ]
  refine wpAnyH_ready (rs := [6]) (by kernel_rfl) (by simp) ?_
  refine AllReadyH.cons rfl (fun K hK => ?_) AllReadyH.nil
  go_simp
  have hl2 : (pairsM t 0 b).length = sects b.length := by simp [pairsM]
  have hl3 := sects_most b.length (by omega)
  have hf1 : 2 + t % 2 * area ≤ 10000 := by
    rcases Nat.mod_two_eq_zero_or_one t with e | e <;> rw [e] <;> omega
  refine (lay_dk g dg area turn n c used A br (2 + t % 2 * area) _ _ (pairsM t 0 b) d F w5 (HW.out.below HB5.out HW.out.lt) (HD.out.below HB5.out) (by omega) hf1 (enters_of Try.func78 (by kernel_rfl) rfl) (parts_seq R95.out HBY5.out hm ht (by omega))).mono ?_
  rintro e w6 ⟨rfl, F6, hd6, hx6, ho6, hr6⟩
  rw [HD1.out] at hd6
  rw [HER.out] at hr6 ⊢
  have hn7 : ¬ (F w.heap.size ∨ w.heap.size = g) := fun h => h.elim (fun h => by have := HD.out.1.2 _ h; omega) (fun e => by have := HW.out.lt; omega)
  have hn8 : ¬ (F b8 ∨ b8 = g) := fun h => h.elim (fun h => by have := HD.out.1.2 _ h; have := HB8.out; omega) (fun e => by have := HW.out.lt; have := HB8.out; omega)
  have R76 : Hid (Row w6 w.heap.size 81 (ccs t none 0 0 0)) := (ho6.block _ R75.out.lt hn7).trans R75.out
  have R86 : Hid (Row w6 b8 101 (fcs t 0 Ab m cb)) := (ho6.block _ R85.out.lt hn8).trans R85.out
  have HBY6 := Lib.hid (own_kept HBY5.out fun k hk hlt => ho6.block k hlt (fun h => h.elim (fun h => by have := HD.out.1.2 _ h; have := HAB.out k hk; omega) (fun e => by have := HW.out.lt; have := HAB.out k hk; omega)))
  have HO6 : Hid (Off (fun k => F k ∨ k = g) w w6) := Lib.hid ((Off.of_below HB5.out).trans (Ext.refl _ _ _) ho6)
  have HX6 : Hid (Ext F F6 w w6) := Lib.hid fun k hk => by
    rcases hx6 k hk with h | h
    · exact .inl h
    · exact .inr ⟨Nat.le_trans HB5.out.size h.1, h.2⟩
  have HD6 := Lib.hid hd6
  have HW6 := Lib.hid hr6
  clear hd6 hx6 ho6 hr6 hn7 hn8 hl2 hl3 hf1
  refine hK _ _ R86.out (fun _ => ?_)
  clear hK K
  try simp only [Act.put, List.setIfInBounds_toArray, List.set_cons_zero, List.set_cons_succ]
  refine wpAnyH_take (i := 7) (oi := ⟨some 9, _, _, _, _, _⟩) (v := ?v7) rfl (by kernel_rfl) (by kernel_rfl) (by kernel_rfl) (fun _ _ _ h => h) (Or.inl ⟨by rfl, ?y7⟩) R86.out ?r7
  case y7 =>
    rintro w' hSw
    go_simp
    try with_reducible rfl
  try simp only [Act.put, List.setIfInBounds_toArray, List.set_cons_zero, List.set_cons_succ]
  refine wpAnyH_done (by kernel_rfl) ?_ _
  by_cases h0 : er = 0
  · subst h0
    have c1 : w6.cell? ⟨g, 1, none⟩ = some (.int .i64 (area : Int)) := HW6.out.cell 1
    have hau : IntKind.u32.wrap (area : Int) = area := by rw [IntKind.wrap_u32]; omega
    have HLH := Lib.hid (show (hcs t area).length = ([.int .u32 0, .int .u32 0] : List Value).length from rfl)
    have HIH := Lib.hid (show (Try.prog.info? 106).map (·.size) = some (hcs t area).length from size106)
    go_wp2_with (first
      | (with_reducible refine wpList_store_whole (op := ⟨none, _, _, _, _, _⟩) ?_ 106 (.tmp 10) (.tmp 33) ?_ w6.heap.size (hcs t area) ?_ ?_ 106 [.int .u32 0, .int .u32 0] ?hrow2 HLH.out (hcs_one _ _) HIH.out ?_))
    case hrow2 => exact Row.new w6 _ [.int .u32 0, .int .u32 0]
    all_goals try (first | rfl | (simp; done))
    intro w7 hr7 hg7
    have hb7 : Below w6.heap.size w6 w7 := ((Below.refl _ _).alloc (Nat.le_refl _) _).grown hg7 (by simp) (fun k hk => by cases hk; exact Nat.le_refl _)
    obtain ⟨b10, hb10⟩ : ∃ b10, w6.heap.size = b10 := ⟨_, rfl⟩
    have R107 : Hid (Row w7 b10 106 (hcs t area)) := by rw [← hb10]; exact hr7
    have HB7 := Lib.hid hb7
    have HW7 := Lib.hid (HW6.out.below hb7 HW6.out.lt)
    clear hr7 hg7 hb7 c1
    go_wp2_with fail
    rw [hb10]
    clear hb10
    refine wp_region_held_drew (S := (fun w' => Row w' b10 106 (hcs t area))) (by kernel_rfl) R107.out (fun hHeld2 => ?_)
    refine wpAnyH_take (i := 0) (oi := ⟨some 34, _, _, _, _, _⟩) (v := ?v0z) rfl (by kernel_rfl) (by kernel_rfl) (by kernel_rfl) (fun _ _ _ h => h) (Or.inl ⟨by rfl, ?y0z⟩) hHeld2 ?r0z
    case y0z =>
      rintro w' hSw
      go_simp
      try with_reducible rfl
    try simp only [Act.put, List.setIfInBounds_toArray, List.set_cons_zero, List.set_cons_succ]
    refine wpAnyH_take (i := 1) (oi := ⟨some 35, _, _, _, _, _⟩) rfl (by kernel_rfl) (by kernel_rfl) (by kernel_rfl) (fun _ _ _ h => h) (yieldsIf_load_mid (by rfl) 106 (.tmp 10) rfl b10 0 ?x1z (hcs t area) _ (fun _ hS => Row.all hS) Try.underlying106 rfl HIH.out) hHeld2 ?r1z
    case x1z => first | rfl | (simp [Act.eval, go_sem]; done)
    try simp only [Act.put, List.setIfInBounds_toArray, List.set_cons_zero, List.set_cons_succ]
    refine wpAnyH_take (i := 3) (oi := ⟨some 37, _, _, _, _, _⟩) rfl (by kernel_rfl) (by kernel_rfl) (by kernel_rfl) (fun _ _ _ h => h) (yieldsIf_load_mid (by rfl) 106 (.tmp 10) rfl b10 0 ?x3z (hcs t area) _ (fun _ hS => Row.all hS) Try.underlying106 rfl HIH.out) hHeld2 ?r3z
    case x3z => first | rfl | (simp [Act.eval, go_sem]; done)
    try simp only [Act.put, List.setIfInBounds_toArray, List.set_cons_zero, List.set_cons_succ]
    refine wpAnyH_ready (rs := [2]) (by kernel_rfl) (by simp) ?_
    refine AllReadyH.cons rfl (fun K hK => ?_) AllReadyH.nil
    go_simp
    refine (place_any t area w7.drew ht).mono ?_
    rintro e w8 ⟨rfl, hb8⟩
    replace hb8 : Below w7.heap.size w7 w8 := undrew hb8
    have R108 := Lib.hid (R107.out.below hb8 R107.out.lt)
    have HB8' := Lib.hid (HB7.out.trans (hb8.mono HB7.out.size))
    clear hb8
    refine hK _ _ R108.out (fun _ => ?_)
    clear hK K
    try simp only [Act.put, List.setIfInBounds_toArray, List.set_cons_zero, List.set_cons_succ]
    refine wpAnyH_ready (rs := [4]) (by kernel_rfl) (by simp) ?_
    refine AllReadyH.cons rfl (fun K hK => ?_) AllReadyH.nil
    go_simp
    refine (sector_any t area w8 ht (by omega)).mono ?_
    rintro e w9 ⟨rfl, hb9⟩
    have R109 := Lib.hid (R108.out.below hb9 R108.out.lt)
    have HB9 := Lib.hid (HB8'.out.trans (hb9.mono HB8'.out.size))
    clear hb9
    refine hK _ _ R109.out (fun _ => ?_)
    clear hK K
    try simp only [Act.put, List.setIfInBounds_toArray, List.set_cons_zero, List.set_cons_succ]
    refine wpAnyH_ready (rs := [5]) (by kernel_rfl) (by simp) ?_
    refine AllReadyH.cons rfl (fun K hK => ?_) AllReadyH.nil
    rw [if_pos (by rfl)]
    obtain ⟨ie, hie, hie0, hie1⟩ := info89
    refine wp_buildOne 72 89 (.tmp 38) rfl (bv (headB t area)) (bv nought) ie rfl Try.underlying72 hie hie0 (hie1.trans nought_len.symm) (by rw [bv_length, headB_len]; rfl) (by rw [nought_len]; omega) (by rw [nought_len]; omega) ?_
    have ra : Row (w9.alloc (.cells (bv (headB t area)).toArray 89)) w9.heap.size 89 (bv (headB t area)) := Row.new w9 _ _
    have hba : Below w9.heap.size w9 (w9.alloc (.cells (bv (headB t area)).toArray 89)) := (Below.refl _ _).alloc (Nat.le_refl _) _
    generalize w9.alloc (.cells (bv (headB t area)).toArray 89) = wa at ra hba ⊢
    obtain ⟨gs, hgs⟩ : ∃ gs, w9.heap.size = gs := ⟨_, rfl⟩
    have R10a := Lib.hid (R109.out.below hba R109.out.lt)
    have HBa := Lib.hid (HB9.out.trans (hba.mono HB9.out.size))
    have HGS : Hid (w6.heap.size ≤ gs) := Lib.hid (by rw [← hgs]; exact HB9.out.size)
    rw [hgs] at ra
    have RA := Lib.hid ra
    rw [hgs]
    clear ra hba hgs hie hie0 hie1
    refine hK _ _ R10a.out (fun _ => ?_)
    clear hK K
    try simp only [Act.put, List.setIfInBounds_toArray, List.set_cons_zero, List.set_cons_succ]
    refine wpAnyH_ready (rs := [6]) (by kernel_rfl) (by simp) ?_
    refine AllReadyH.cons rfl (fun K hK => ?_) AllReadyH.nil
    go_simp
    refine (sall_any (some ⟨gs, 0, none⟩) 1 1 wa).mono ?_
    rintro e wb ⟨rfl, hwb⟩
    have rb : Row wb wa.heap.size 72 [.slice (some ⟨gs, 0, none⟩) 1 1] := by rw [hwb]; exact Row.new wa _ _
    have hbb : Below wa.heap.size wa wb := by rw [hwb]; exact (Below.refl _ _).alloc (Nat.le_refl _) _
    clear hwb
    have R10b := Lib.hid (R10a.out.below hbb R10a.out.lt)
    have HBb := Lib.hid (HBa.out.trans (hbb.mono HBa.out.size))
    have RAb := Lib.hid (RA.out.below hbb RA.out.lt)
    have RB := Lib.hid rb
    clear hbb rb
    refine hK _ _ R10b.out (fun _ => ?_)
    clear hK K
    try simp only [Act.put, List.setIfInBounds_toArray, List.set_cons_zero, List.set_cons_succ]
    refine wpAnyH_ready (rs := [7]) (by kernel_rfl) (by simp) ?_
    refine AllReadyH.cons rfl (fun K hK => ?_) AllReadyH.nil
    go_simp
    have hdb : Dk wb F6 dg d1 := HD6.out.below HBb.out
    have hdb' := hdb
    have hnF : ¬ F6 gs := fun h => by have := HD6.out.1.2 gs h; have := HGS.out; omega
    have hbls : Bls wb (fun k => k < wb.heap.size ∧ ¬ F6 k) (some ⟨gs, 0, none⟩) [headB t area] := fun _ => ⟨gs, 0, rfl, ⟨RAb.out.lt, hnF⟩, fun i hi => by
      have : i = 0 := by simp at hi; omega
      subst this
      exact ⟨headB_len _ _, Row.all RAb.out⟩⟩
    have h2b : t % 2 ≤ 10000 := by omega
    have hlst : (List.range [headB t area].length).map (fun (i : Nat) => ((i : Int), [headB t area].getD i nought)) = [(0, headB t area)] := rfl
    have hsq := all_seq (by simp) RB.out hbls
    rw [hlst] at hsq
    have hmod : ((t % 2 : Nat) : Int) = (t : Int) % 2 := by simp
    have HLY := lay_dk g dg area turn n c used A (br || decide ((0 : Int) ≠ 0)) (t % 2) _ _ [(0, headB t area)] d1 F6 wb (HW6.out.below HBb.out HW6.out.lt) hdb (by simp; omega) h2b (enters_of Try.func71 (by kernel_rfl) rfl) hsq
    have e1 : layM [(0, headB t area)] ((t : Int) % 2) d1 = layM [(0, headB t area)] ((t % 2 : Nat) : Int) d1 := by rw [hmod]
    rw [show ((t % 2 : Nat) : Int) = (t : Int) % 2 from hmod] at HLY
    rw [e1] at HLY
    refine HLY.mono ?_
    rintro e wc ⟨rfl, F9, hd9, hx9, ho9, hr9⟩
    clear HLY hsq hlst hbls hdb e1 hmod
    obtain ⟨d2, hd2⟩ : ∃ d2, (layM [(0, headB t area)] ((t % 2 : Nat) : Int) d1).1 = d2 := ⟨_, rfl⟩
    obtain ⟨e2, he2⟩ : ∃ e2, (layM [(0, headB t area)] ((t % 2 : Nat) : Int) d1).2 = e2 := ⟨_, rfl⟩
    rw [hd2] at hd9
    rw [he2] at hr9 ⊢
    have hB : beginM t area b d = (d2, e2) := by
      unfold beginM
      rw [if_neg (by rw [HER.out]; simp), HD1.out, ← hd2, ← he2]
    have HBG := Lib.hid hB
    have hneg : ∀ k, w.heap.size ≤ k → k ≠ g := fun k hk e => by have := HW.out.lt; omega
    have hkeep : ∀ k, k < w6.heap.size → ¬ F6 k → k ≠ g → wc.heap[k]? = w6.heap[k]? := fun k hk h1 h2 => (ho9.block k (Nat.lt_of_lt_of_le hk HBb.out.size) (fun h => h.elim h1 h2)).trans (HBb.out.block k hk)
    have R7c : Hid (Row wc w.heap.size 81 (ccs t none 0 0 0)) := (hkeep _ R76.out.lt (HD6.out.not R76.out (by decide) (by decide) (by decide)) (hneg _ (Nat.le_refl _))).trans R76.out
    have R8c : Hid (Row wc b8 101 (fcs t 0 Ab m cb)) := (hkeep _ R86.out.lt (HD6.out.not R86.out (by decide) (by decide) (by decide)) (hneg _ HB8.out)).trans R86.out
    have R10c : Hid (Row wc b10 106 (hcs t area)) := (ho9.block _ R10b.out.lt (fun h => h.elim (fun h => hdb'.not R10b.out (by decide) (by decide) (by decide) h) (fun e => by have h1 := row_type R10b.out (e ▸ HW6.out.below HBb.out HW6.out.lt); exact absurd h1 (by decide)))).trans R10b.out
    have HBYc := Lib.hid (own_kept HBY6.out fun k hk hlt => hkeep k hlt (fun hf => by
      rcases HBY6.out.2 with ⟨hv, _⟩ | ⟨g', cap, cur, hv, _, hg', _⟩
      · rw [hv] at hk; cases hk
      · rw [hv] at hk
        cases hk
        have h0 : Row w6 g' 5 cur.toList := by show _ = _; simpa using hg'
        exact HD6.out.not h0 (by decide) (by decide) (by decide) hf) (hneg k (HAB.out k hk)))
    have HOc : Hid (Off (fun k => F k ∨ k = g) w wc) := Lib.hid ⟨ho9.os.trans (HBb.out.os.trans HO6.out.os), ho9.tape.trans (HBb.out.tape.trans HO6.out.tape), ho9.output.trans (HBb.out.output.trans HO6.out.output), Nat.le_trans HO6.out.size (Nat.le_trans HBb.out.size ho9.size), fun k hk hn => by
      have hk6 : ¬ F6 k := fun hf => by
        rcases HX6.out k hf with h | h
        · exact hn (.inl h)
        · omega
      exact (hkeep k (Nat.lt_of_lt_of_le hk HO6.out.size) hk6 (fun e => hn (.inr e))).trans (HO6.out.block k hk hn)⟩
    have HXc : Hid (Ext F F9 w wc) := Lib.hid fun k hk => by
      rcases hx9 k hk with h | h
      · rcases HX6.out k h with h | h
        · exact .inl h
        · exact .inr ⟨h.1, Nat.lt_of_lt_of_le h.2 (Nat.le_trans HBb.out.size ho9.size)⟩
      · exact .inr ⟨Nat.le_trans HO6.out.size (Nat.le_trans HBb.out.size h.1), h.2⟩
    have HD9 := Lib.hid hd9
    have HW9 := Lib.hid hr9
    have HE2 := Lib.hid he2
    clear hd9 hr9 ho9 hx9 he2 hd2 hB hkeep
    refine hK _ _ R10c.out (fun _ => ?_)
    clear hK K
    try simp only [Act.put, List.setIfInBounds_toArray, List.set_cons_zero, List.set_cons_succ]
    refine wpAnyH_take (i := 8) (oi := ⟨some 11, _, _, _, _, _⟩) (v := ?v8z) rfl (by kernel_rfl) (by kernel_rfl) (by kernel_rfl) (fun _ _ _ h => h) (Or.inl ⟨by rfl, ?y8z⟩) R10c.out ?r8z
    case y8z =>
      rintro w' hSw
      go_simp
      try with_reducible rfl
    try simp only [Act.put, List.setIfInBounds_toArray, List.set_cons_zero, List.set_cons_succ]
    refine wpAnyH_done (by kernel_rfl) ?_ _
    by_cases h1 : e2 = 0
    · subst h1
      have HCI := Lib.hid (show (Try.prog.info? 81).map (·.size) = some (ccs t none 0 0 0).length from size81)
      have HFI := Lib.hid (show (Try.prog.info? 101).map (·.size) = some (fcs t 0 Ab m cb).length from size101)
      go_wp2_with (first
        | (with_reducible refine wpList_load_row (op := ⟨some 46, _, _, _, _, _⟩) ?_ 81 (.tmp 7) ?_ w.heap.size 0 ?_ (ccs t none 0 0 0) _ (Row.all R7c.out) Try.underlying81 ?_ HCI.out ?_)
        | (with_reducible refine wpList_load_row (op := ⟨some 47, _, _, _, _, _⟩) ?_ 101 (.tmp 8) ?_ b8 0 ?_ (fcs t 0 Ab m cb) _ (Row.all R8c.out) Try.underlying101 ?_ HFI.out ?_))
      all_goals try (first | rfl | (simp; done))
      go_wp2_with fail
      refine (with_any t 0 0 0 none [] t 0 Ab m cb wc (World.ownsRow_nil _ _ _ _) hm (by omega) (by omega)).mono ?_
      rintro e wd ⟨A', c', rfl, hown, hblk, hgd⟩
      rw [Nat.zero_add, Nat.zero_add] at *
      have RWd : Hid (Row wd g 83 (wcs dg area turn A n c used ((br || decide ((0 : Int) ≠ 0)) || decide ((0 : Int) ≠ 0)))) := (hgd.block g HW9.out.lt (by simp [Value.ownBlock])).trans HW9.out
      have HBYd := Lib.hid (own_kept HBYc.out fun k _ hlt => hgd.block k hlt (by simp [Value.ownBlock]))
      have HBK : Hid (∀ k, (Value.slice A' 1 c').ownBlock = some k → w.heap.size ≤ k) := Lib.hid fun k hk => by
        rcases hblk k hk with h | h
        · cases h
        · exact Nat.le_trans HOc.out.size h
      have HOW : Hid (wd.ownsRow 0 37 1 (.slice A' 1 c') 1 [.slice Ab m cb]) := hown
      have HDd := Lib.hid (HD9.out.below (show Below wc.heap.size wc wd from ⟨hgd.os, hgd.tape, hgd.output, hgd.size, fun k hk => hgd.block k hk (by simp [Value.ownBlock])⟩))
      have HOd : Hid (Off (fun k => F k ∨ k = g) w wd) := Lib.hid (HOc.out.grown hgd (by intro r e; cases e))
      have HZd := Lib.hid hgd.size
      clear hown hblk hgd
      have HCI2 := Lib.hid (show (Try.prog.info? 81).map (·.size) = some (ccs t A' 1 c' (sects m)).length from size81)
      go_wp2_with (first
        | (with_reducible refine wpList_store_in (op := ⟨none, _, _, _, _, _⟩) ?_ 81 (.tmp 50) (.tmp 48) ?_ g 2 (ccs t A' 1 c' (sects m)) ?_ ?_ 83 (wcs dg area turn A n c used ((br || decide ((0 : Int) ≠ 0)) || decide ((0 : Int) ≠ 0))) RWd.out ?hfit (ccs_one _ _ _ _ _) HCI2.out ?_))
      case hfit => exact Nat.le_of_ble_eq_true rfl
      all_goals try (first | rfl | (simp; done))
      intro we hre hge
      have hgk : ∀ k t' cs, Row wd k t' cs → t' ≠ 83 → k ≠ g := fun k t' cs hr ht e => ht (row_type hr (e ▸ RWd.out))
      have hby_e : By we Ab m cb b := own_kept HBYd.out fun k hk hlt => hge.block k hlt (fun e => by
        rcases HBYd.out.2 with ⟨hv, _⟩ | ⟨g', cap, cur, hv, _, hg', _⟩
        · rw [hv] at hk; cases hk
        · rw [hv] at hk
          cases hk
          have h0 : Row wd g' 5 cur.toList := by show _ = _; simpa using hg'
          exact hgk _ _ _ h0 (by decide) (Option.some.inj e))
      have how_e : we.ownsRow 0 37 1 (.slice A' 1 c') 1 [.slice Ab m cb] := own_kept HOW.out fun k hk hlt => hge.block k hlt (fun e => by
        rcases HOW.out.2 with ⟨hv, _⟩ | ⟨g', cap, cur, hv, _, hg', _⟩
        · rw [hv] at hk; cases hk
        · rw [hv] at hk
          cases hk
          have h0 : Row wd g' 37 cur.toList := by show _ = _; simpa using hg'
          exact hgk _ _ _ h0 (by decide) (Option.some.inj e))
      have hd_e : Dk we F9 dg d2 := ⟨HDd.out.1.off (F' := fun k => k = g) (fun k hk e => HDd.out.not RWd.out (by decide) (by decide) (by decide) (e ▸ hk)) (Off.of_grown hge (fun k e => (Option.some.inj e).symm)), fun k t' cs hr hk => by
        have hkg : k ≠ g := fun e => HDd.out.not RWd.out (by decide) (by decide) (by decide) (e ▸ hk)
        exact HDd.out.2 k t' cs ((hge.block k (HDd.out.1.2 k hk) (fun e => hkg (Option.some.inj e))).symm.trans hr) hk⟩
      have HFIN : Hid (Dk we F9 dg d2 ∧ Off (fun k => F k ∨ k = g) w we ∧ Begun w we g dg area t b m br ∧ Ext F F9 w we) := Lib.hid ⟨hd_e, HOd.out.grown hge (fun r e => .inl (.inr (Option.some.inj e).symm)), ⟨A', c', Ab, cb, by simpa [splice, wcs, ccs] using hre, how_e, hby_e, HBK.out, HAB.out⟩, fun k hk => by
        rcases HXc.out k hk with h | h
        · exact .inl h
        · exact .inr ⟨h.1, Nat.lt_of_lt_of_le h.2 (Nat.le_trans HZd.out hge.size)⟩⟩
      clear hre hge hgk hby_e how_e hd_e
      go_wp2
      go_ret
      rw [HBG.out]
      exact ⟨rfl, F9, HFIN.out.1, HFIN.out.2.2.2, HFIN.out.2.1, fun h => absurd rfl h, fun _ => HFIN.out.2.2.1⟩
    · go_wp2
      go_ret
      rw [HBG.out]
      refine ⟨rfl, F9, HD9.out, HXc.out, HOc.out, fun _ => ?_, fun h => absurd h h1⟩
      have := HW9.out
      rwa [show ((br || decide ((0 : Int) ≠ 0)) || decide (e2 ≠ 0)) = true by simp [h1]] at this
  · go_wp2
    go_ret
    have hB : beginM t area b d = (d1, er) := by
      unfold beginM
      rw [if_pos (by rw [HER.out]; exact h0), ← HD1.out, ← HER.out]
    rw [hB]
    refine ⟨rfl, F6, HD6.out, HX6.out, HO6.out, fun _ => ?_, fun h => absurd h h0⟩
    have := HW6.out
    rwa [show (br || decide (er ≠ 0)) = true by simp [h0]] at this
end Go.Proofs.Yteemdjamgbbjhaa.Wl

/-
  Format.
-/
namespace Go.Proofs.Yteemdjamgbbjhaa.Wl
set_option maxRecDepth 100000
open Go.RowKit Go.Shelf Go.Proofs.Yteemdjamgbbjhaa.Wd Go.Proofs.Yteemdjamgbbjhaa.Dsk Go.Proofs.Yteemdjamgbbjhaa.Oct Go.Proofs.Yteemdjamgbbjhaa.Sum

def noughtsL (n : Nat) : List (Int × List UInt8) := (List.range n).map fun (i : Nat) => ((i : Int), nought)
def formM (area : Nat) (d : DM) : DM × Int :=
  if (layM (noughtsL (2 + 2 * area)) 0 d).2 ≠ 0 then layM (noughtsL (2 + 2 * area)) 0 d else beginM 0 area [] (layM (noughtsL (2 + 2 * area)) 0 d).1
set_option maxHeartbeats 8000000 in
theorem format_any (dg area : Nat) (d : DM) (F : Nat → Prop) (w : World) (hd : Dk w F dg d) (h4 : 4 ≤ area) (ha : area ≤ 1000) (hl : 2 + 2 * area ≤ d.sec.length) (hp : d.pend.length ≤ 800000) :
    Calls Try.prog 13 #[.pointer (some ⟨dg, 0, none⟩), .int .i64 (area : Int)] w fun e w' => ∃ p F', e = .returned (.tuple #[.pointer p, .int .i64 (formM area d).2]) ∧
      Dk w' F' dg (formM area d).1 ∧ Ext F F' w w' ∧ Off F w w' ∧ ((formM area d).2 ≠ 0 → p = none) ∧ ((formM area d).2 = 0 → ∃ g, p = some ⟨g, 0, none⟩ ∧ w.heap.size ≤ g ∧ Begun w w' g dg area 0 [] 0 false) := by
  have mixed : Try.prog.follows .mixedOrders = true := by kernel_rfl
  have HD := Lib.hid hd
  have hlt := hd.1.2
  obtain ⟨⟨gs0, A0, c0, hda⟩, _⟩ := id hd.1
  have hdl := hlt dg hda.fg
  have a1 : ¬ (area : Int) < 4 := by omega
  have a2 : ¬ (1000 : Int) < (area : Int) := by omega
  have HL := Lib.hid (len_any dg d F w hd.1.1)
  have HN := Lib.hid (needed_any area w ha)
  have HL2 := Lib.hid hl
  have hll : ¬ ((d.sec.length : Int) < ((2 + 2 * area : Nat) : Int)) := by omega
  clear hd hda hlt hl
  go_enter Try.func13, Try.ntmps13
  go_wp2_with fail
  refine (HL.out).mono ?_
  rintro e w1 ⟨rfl, hx⟩
  have hx2 := hx.symm
  subst hx2
  clear hx
  go_wp2_with fail
  refine (HN.out).mono ?_
  rintro e w1 ⟨rfl, hx2⟩
  subst hx2
  have hmk := make_blks (2 + 2 * area) (by omega)
  have hc2 : ((2 + 2 * area : Nat) : Int) = 2 + 2 * (area : Int) := by omega
  rw [hc2] at hmk
  go_wp2_with fail
  have rg0 : Row (w.alloc (.cells #[.pointer (some ⟨dg, 0, none⟩), .int .i64 (area : Int), .int .u32 0, .slice none 0 0, .int .i64 0, .bool false] 83)) w.heap.size 83 (wcs dg area 0 none 0 0 0 false) := Row.new w _ _
  have hb0 : Below w.heap.size w (w.alloc (.cells #[.pointer (some ⟨dg, 0, none⟩), .int .i64 (area : Int), .int .u32 0, .slice none 0 0, .int .i64 0, .bool false] 83)) := (Below.refl _ _).alloc (Nat.le_refl _) _
  generalize w.alloc (.cells #[.pointer (some ⟨dg, 0, none⟩), .int .i64 (area : Int), .int .u32 0, .slice none 0 0, .int .i64 0, .bool false] 83) = w1 at rg0 hb0 ⊢
  have RG1 := Lib.hid rg0
  have HB1 := Lib.hid hb0
  clear rg0 hb0
  refine (needed_any area w1 ha).mono ?_
  rintro e w2 ⟨rfl, hx2⟩
  subst hx2
  go_wp2_with fail
  have rs : Row (w1.alloc (.cells (madeCells (bv nought).toArray ((2 + 2 * area) * 64)) 89)) w1.heap.size 89 (List.replicate ((2 + 2 * area) * 64) (.int .u8 0)) := by
    have e2 : bv nought = List.replicate 64 (.int .u8 0) := (bv_zero 64).symm
    rw [e2, made_rep _ _ _ (by omega)]
    exact Row.new w1 89 _
  have hbs : Below w1.heap.size w1 (w1.alloc (.cells (madeCells (bv nought).toArray ((2 + 2 * area) * 64)) 89)) := (Below.refl _ _).alloc (Nat.le_refl _) _
  obtain ⟨gs, hgs⟩ : ∃ gs, w1.heap.size = gs := ⟨_, rfl⟩
  generalize w1.alloc (.cells (madeCells (bv nought).toArray ((2 + 2 * area) * 64)) 89) = w2 at rs hbs ⊢
  have HGS : Hid (w.heap.size ≤ gs) := Lib.hid (by rw [← hgs]; exact HB1.out.size)
  have RG2 := Lib.hid (RG1.out.below hbs RG1.out.lt)
  have HB2 := Lib.hid (HB1.out.trans (hbs.mono HB1.out.size))
  rw [hgs] at rs ⊢
  have RS := Lib.hid rs
  clear rs hbs hgs hmk
  refine (sall_any (some ⟨gs, 0, none⟩) (2 + 2 * area) (2 + 2 * area) w2).mono ?_
  rintro e w3 ⟨rfl, hw3⟩
  have rb : Row w3 w2.heap.size 72 [.slice (some ⟨gs, 0, none⟩) (2 + 2 * area) (2 + 2 * area)] := by rw [hw3]; exact Row.new w2 _ _
  have hb3 : Below w2.heap.size w2 w3 := by rw [hw3]; exact (Below.refl _ _).alloc (Nat.le_refl _) _
  clear hw3
  have RG3 := Lib.hid (RG2.out.below hb3 RG2.out.lt)
  have HB3 := Lib.hid (HB2.out.trans (hb3.mono HB2.out.size))
  have RS3 := Lib.hid (RS.out.below hb3 RS.out.lt)
  have RB := Lib.hid rb
  clear hb3 rb
  go_wp2_with fail
  obtain ⟨L, hL⟩ : ∃ L, L = List.replicate (2 + 2 * area) nought := ⟨_, rfl⟩
  have hLl : L.length = 2 + 2 * area := by rw [hL, List.length_replicate]
  have hLg : ∀ i, i < 2 + 2 * area → L.getD i nought = nought := fun i hi => by rw [hL, List.getD_eq_getElem?_getD, List.getElem?_replicate, if_pos hi]; rfl
  have hlst : (List.range L.length).map (fun (i : Nat) => ((i : Int), L.getD i nought)) = noughtsL (2 + 2 * area) := by
    unfold noughtsL
    rw [hLl]
    apply List.map_congr_left
    intro i hi
    rw [hLg i (List.mem_range.1 hi)]
  have hnF : ¬ F gs := fun h => by have := HD.out.1.2 gs h; have := HGS.out; omega
  have hbls : Bls w3 (fun k => k < w3.heap.size ∧ ¬ F k) (some ⟨gs, 0, none⟩) L := fun _ => ⟨gs, 0, rfl, ⟨RS3.out.lt, hnF⟩, fun i hi => by
    rw [hLl] at hi
    rw [hLg i hi]
    refine ⟨rfl, Row.range RS3.out fun j v hj => ?_⟩
    have hj2 : j < 64 := by simpa [nought_len] using (List.getElem?_eq_some_iff.1 hj).1
    have e2 : bv nought = List.replicate 64 (.int .u8 0) := (bv_zero 64).symm
    rw [e2, List.getElem?_replicate, if_pos hj2] at hj
    rw [← hj, List.getElem?_replicate, if_pos (by omega)]⟩
  have hsq := all_seq (c := 2 + 2 * area) (by rw [hLl]; omega) (by rw [hLl]; exact RB.out) hbls
  rw [hlst] at hsq
  have HLY := lay_dk w.heap.size dg area 0 0 0 0 none false 0 _ _ (noughtsL (2 + 2 * area)) d F w3 RG3.out (HD.out.below HB3.out) (by simp [noughtsL]; omega) (by omega) (enters_of Try.func71 (by kernel_rfl) rfl) hsq
  clear hsq hbls hlst hLl hLg
  rw [show ((0 : Nat) : Int) = 0 from rfl] at HLY
  refine HLY.mono ?_
  rintro e w4 ⟨rfl, F4, hd4, hx4, ho4, hr4⟩
  clear HLY
  obtain ⟨d1, hd1⟩ : ∃ d1, (layM (noughtsL (2 + 2 * area)) 0 d).1 = d1 := ⟨_, rfl⟩
  obtain ⟨er, her⟩ : ∃ er, (layM (noughtsL (2 + 2 * area)) 0 d).2 = er := ⟨_, rfl⟩
  rw [hd1] at hd4
  rw [her] at hr4 ⊢
  have hpd1 : d1.pend.length ≤ 810000 := by
    rw [← hd1]
    have h1 := lay_pend (noughtsL (2 + 2 * area)) 0 d
    have h2 : (noughtsL (2 + 2 * area)).length = 2 + 2 * area := by simp [noughtsL]
    omega
  have HO4 : Hid (Off F w w4) := Lib.hid ⟨ho4.os.trans HB3.out.os, ho4.tape.trans HB3.out.tape, ho4.output.trans HB3.out.output, Nat.le_trans HB3.out.size ho4.size, fun k hk hn => (ho4.block k (Nat.lt_of_lt_of_le hk HB3.out.size) (fun h => h.elim hn (fun e => by omega))).trans (HB3.out.block k hk)⟩
  have HX4 : Hid (Ext F F4 w w4) := Lib.hid fun k hk => by
    rcases hx4 k hk with h | h
    · exact .inl h
    · exact .inr ⟨Nat.le_trans HB3.out.size h.1, h.2⟩
  have HD4 := Lib.hid hd4
  have HR4 := Lib.hid hr4
  have HD1 := Lib.hid hd1
  have HER := Lib.hid her
  clear hd4 hx4 ho4 hr4 hd1 her
  by_cases h0 : er = 0
  · subst h0
    go_wp2_with fail
    refine (begin_any w.heap.size dg area 0 0 0 0 none (false || decide ((0 : Int) ≠ 0)) 0 none 0 0 [] d1 F4 w4 HR4.out HD4.out (Sl.nil_ _ _) (by omega) ha (by omega) (by omega)).mono ?_
    rintro e w5 ⟨rfl, F5, hd5, hx5, ho5, hb5, hg5⟩
    have hF : formM area d = beginM 0 area [] d1 := by
      unfold formM
      rw [if_neg (by rw [HER.out]; simp), HD1.out]
    rw [← hF] at hd5 hb5 hg5 ⊢
    have HX5 : Hid (Ext F F5 w w5) := Lib.hid fun k hk => by
      rcases hx5 k hk with h | h
      · rcases HX4.out k h with h | h
        · exact .inl h
        · exact .inr ⟨h.1, Nat.lt_of_lt_of_le h.2 ho5.size⟩
      · exact .inr ⟨Nat.le_trans HO4.out.size h.1, h.2⟩
    have HO5 : Hid (Off F w w5) := Lib.hid ⟨ho5.os.trans HO4.out.os, ho5.tape.trans HO4.out.tape, ho5.output.trans HO4.out.output, Nat.le_trans HO4.out.size ho5.size, fun k hk hn => (ho5.block k (Nat.lt_of_lt_of_le hk HO4.out.size) (fun h => h.elim (fun h => by
      rcases HX4.out k h with h | h
      · exact hn h
      · omega) (fun e => by omega))).trans (HO4.out.block k hk hn)⟩
    have HD5 := Lib.hid hd5
    have HG5 : Hid ((formM area d).2 = 0 → Begun w w5 w.heap.size dg area 0 [] 0 false) := Lib.hid fun h => by
      obtain ⟨A, c, Ab, cb, h1, h2, h3, h4, h5⟩ := hg5 h
      exact ⟨A, c, Ab, cb, by simpa using h1, h2, h3, fun k hk => Nat.le_trans HO4.out.size (h4 k hk), fun k hk => Nat.le_trans HO4.out.size (h5 k hk)⟩
    obtain ⟨e5, he5⟩ : ∃ e5, (formM area d).2 = e5 := ⟨_, rfl⟩
    rw [he5] at HG5 ⊢
    have HE5 := Lib.hid he5
    clear hd5 hx5 ho5 hb5 hg5 hF he5
    by_cases h1 : e5 = 0
    · subst h1
      go_wp2
      exact bodyPost_ret (v := .tuple #[.pointer (some ⟨w.heap.size, 0, none⟩), .int .i64 0]) (by simp [results, Try.results13, go_sem]) rfl ⟨_, F5, by rw [HE5.out], HD5.out, HX5.out, HO5.out, fun h => absurd HE5.out h, fun _ => ⟨_, rfl, Nat.le_refl _, HG5.out (by simp)⟩⟩
    · go_wp2
      exact bodyPost_ret (v := .tuple #[.pointer none, .int .i64 e5]) (by simp [results, Try.results13, go_sem]) rfl ⟨_, F5, by rw [HE5.out], HD5.out, HX5.out, HO5.out, fun _ => rfl, fun h => absurd (HE5.out.symm.trans h) h1⟩
  · have hF : formM area d = (d1, er) := by
      unfold formM
      rw [if_pos (by rw [HER.out]; exact h0), ← HD1.out, ← HER.out]
    have HFF := Lib.hid hF
    clear hF
    go_wp2
    exact bodyPost_ret (v := .tuple #[.pointer none, .int .i64 er]) (by simp [results, Try.results13, go_sem]) rfl ⟨_, F4, by rw [HFF.out], by rw [HFF.out]; exact HD4.out, HX4.out, HO4.out, fun _ => rfl, fun h => absurd (by rw [HFF.out] at h; exact h) h0⟩
end Go.Proofs.Yteemdjamgbbjhaa.Wl

/-
  Append.
-/
namespace Go.Proofs.Yteemdjamgbbjhaa.Wl
set_option maxRecDepth 100000
open Go.RowKit Go.Shelf Go.Proofs.Yteemdjamgbbjhaa.Wd Go.Proofs.Yteemdjamgbbjhaa.Dsk Go.Proofs.Yteemdjamgbbjhaa.Oct Go.Proofs.Yteemdjamgbbjhaa.Sum

/-- a log in memory: its own blocks are in G -/
def Log (w : World) (G : Nat → Prop) (g dg area t : Nat) (fs : List (List UInt8)) (br : Bool) : Prop :=
  ∃ A c xs, Row w g 83 (wcs dg area t A fs.length c (usedM fs) br) ∧ w.ownsRow 0 37 1 (.slice A fs.length c) fs.length xs ∧ G g ∧ (∀ k, (Value.slice A fs.length c).ownBlock = some k → G k) ∧
    ∀ i, i < fs.length → ∃ Ai ni ci, xs[i]? = some (.slice Ai ni ci) ∧ By w Ai ni ci (fs.getD i []) ∧ ni ≤ 40000 ∧ ∀ k, (Value.slice Ai ni ci).ownBlock = some k → G k
theorem Log.of_begun {w w' : World} {g dg area t m : Nat} {b : List UInt8} {br : Bool} (h : Begun w w' g dg area t b m br) (hg : w.heap.size ≤ g) (hm : m ≤ 40000) (hl : b.length = m) : Log w' (fun k => w.heap.size ≤ k) g dg area t [b] br := by
  obtain ⟨A, c, Ab, cb, h1, h2, h3, h4, h5⟩ := h
  refine ⟨A, c, [.slice Ab m cb], ?_, h2, hg, h4, fun i hi => ?_⟩
  · simpa [usedM, hl] using h1
  · have : i = 0 := by simp at hi; omega
    subst this
    exact ⟨Ab, m, cb, rfl, h3, hm, h5⟩
set_option maxHeartbeats 4000000 in
theorem end_any (g dg area t n c used : Nat) (A : Option Addr) (br : Bool) (w : World) (h : Row w g 83 (wcs dg area t A n c used br)) (ha : area ≤ 1000) (ht : t < 4294967296) (hu : used ≤ 2000) :
    Calls Try.prog 57 #[.pointer (some ⟨g, 0, none⟩)] w fun e w' => e = .returned (.int .i64 ((2 + t % 2 * area + used : Nat) : Int)) ∧ w' = w.drew := by
  have mixed : Try.prog.follows .mixedOrders = true := by kernel_rfl
  have R := Lib.hid h
  have HF := Lib.hid (first_any g dg area t used n c A br t w.drew (Row.drew h) ha ht)
  have h1 : t % 2 * area ≤ 1000 := by
    rcases Nat.mod_two_eq_zero_or_one t with e | e <;> rw [e] <;> omega
  clear h
  have hadd : IntKind.i64.wrap (((2 + t % 2 * area : Nat) : Int) + (used : Int)) = ((2 + t % 2 * area + used : Nat) : Int) := by
    rw [IntKind.wrap_i64]; omega
  obtain ⟨f, hf⟩ : ∃ f, f = 2 + t % 2 * area := ⟨_, rfl⟩
  rw [← hf] at HF hadd ⊢
  clear hf h1
  go_enter Try.func57, Try.ntmps57
  go_wp2_with fail
  refine wp_region_held_drew (S := (fun w' => Row w' g 83 (wcs dg area t A n c used br))) (by kernel_rfl) R.out (fun hHeld => ?_)
  refine wpAnyH_take (i := 0) (oi := ⟨some 3, _, _, _, _, _⟩) (v := ?v0) rfl (by kernel_rfl) (by kernel_rfl) (by kernel_rfl) (fun _ _ _ h => h) (Or.inl ⟨by rfl, ?y0⟩) hHeld ?r0
  case y0 =>
    rintro w' hSw
    go_simp
    try with_reducible rfl
  try simp only [Act.put, List.setIfInBounds_toArray, List.set_cons_zero, List.set_cons_succ]
  refine wpAnyH_take (i := 1) (oi := ⟨some 4, _, _, _, _, _⟩) (v := ?v1) rfl (by kernel_rfl) (by kernel_rfl) (by kernel_rfl) (fun _ _ _ h => h) (Or.inl ⟨by rfl, ?y1⟩) hHeld ?r1
  case y1 =>
    rintro w' hSw
    go_simp
    try with_reducible rfl
  try simp only [Act.put, List.setIfInBounds_toArray, List.set_cons_zero, List.set_cons_succ]
  refine wpAnyH_take (i := 2) (oi := ⟨some 5, _, _, _, _, _⟩) (v := ?v2) rfl (by kernel_rfl) (by kernel_rfl) (by kernel_rfl) (fun _ _ _ h => h) (Or.inl ⟨by rfl, ?y2⟩) hHeld ?r2
  case y2 =>
    rintro w' hSw
    go_simp
    try with_reducible rfl
  try simp only [Act.put, List.setIfInBounds_toArray, List.set_cons_zero, List.set_cons_succ]
  refine wpAnyH_take (i := 3) (oi := ⟨some 6, _, _, _, _, _⟩) (v := ?v3) rfl (by kernel_rfl) (by kernel_rfl) (by kernel_rfl) (fun _ _ _ h => h) (Or.inl ⟨by rfl, ?y3⟩) hHeld ?r3
  case y3 =>
    rintro w' hSw
    go_simp
    try with_reducible rfl
  try simp only [Act.put, List.setIfInBounds_toArray, List.set_cons_zero, List.set_cons_succ]
  refine wpAnyH_take (i := 4) (oi := ⟨some 7, _, _, _, _, _⟩) (v := ?v4) rfl (by kernel_rfl) (by kernel_rfl) (by kernel_rfl) (fun _ _ _ h => h) (Or.inl ⟨by rfl, ?y4⟩) hHeld ?r4
  case y4 =>
    rintro w' hSw
    go_simp
    try with_reducible rfl
  try simp only [Act.put, List.setIfInBounds_toArray, List.set_cons_zero, List.set_cons_succ]
  refine wpAnyH_take (i := 5) (oi := ⟨some 8, _, _, _, _, _⟩) (v := ?v5) rfl (by kernel_rfl) (by kernel_rfl) (by kernel_rfl) (fun _ _ _ h => h) (Or.inl ⟨by rfl, ?y5⟩) hHeld ?r5
  case y5 =>
    rintro w' hSw
    have e2 : w'.cell? ⟨g, 2, none⟩ = some (.int .u32 (t : Int)) := hSw.cell 2
    go_simp
    try with_reducible rfl
  try simp only [Act.put, List.setIfInBounds_toArray, List.set_cons_zero, List.set_cons_succ]
  refine wpAnyH_take (i := 7) (oi := ⟨some 10, _, _, _, _, _⟩) (v := ?v7) rfl (by kernel_rfl) (by kernel_rfl) (by kernel_rfl) (fun _ _ _ h => h) (Or.inl ⟨by rfl, ?y7⟩) hHeld ?r7
  case y7 =>
    rintro w' hSw
    go_simp
    try with_reducible rfl
  try simp only [Act.put, List.setIfInBounds_toArray, List.set_cons_zero, List.set_cons_succ]
  refine wpAnyH_take (i := 8) (oi := ⟨some 11, _, _, _, _, _⟩) (v := ?v8) rfl (by kernel_rfl) (by kernel_rfl) (by kernel_rfl) (fun _ _ _ h => h) (Or.inl ⟨by rfl, ?y8⟩) hHeld ?r8
  case y8 =>
    rintro w' hSw
    go_simp
    try with_reducible rfl
  try simp only [Act.put, List.setIfInBounds_toArray, List.set_cons_zero, List.set_cons_succ]
  refine wpAnyH_take (i := 9) (oi := ⟨some 12, _, _, _, _, _⟩) (v := ?v9) rfl (by kernel_rfl) (by kernel_rfl) (by kernel_rfl) (fun _ _ _ h => h) (Or.inl ⟨by rfl, ?y9⟩) hHeld ?r9
  case y9 =>
    rintro w' hSw
    go_simp
    try with_reducible rfl
  try simp only [Act.put, List.setIfInBounds_toArray, List.set_cons_zero, List.set_cons_succ]
  refine wpAnyH_take (i := 10) (oi := ⟨some 13, _, _, _, _, _⟩) (v := ?v10) rfl (by kernel_rfl) (by kernel_rfl) (by kernel_rfl) (fun _ _ _ h => h) (Or.inl ⟨by rfl, ?y10⟩) hHeld ?r10
  case y10 =>
    rintro w' hSw
    go_simp
    try with_reducible rfl
  try simp only [Act.put, List.setIfInBounds_toArray, List.set_cons_zero, List.set_cons_succ]
  refine wpAnyH_take (i := 11) (oi := ⟨some 14, _, _, _, _, _⟩) (v := ?v11) rfl (by kernel_rfl) (by kernel_rfl) (by kernel_rfl) (fun _ _ _ h => h) (Or.inl ⟨by rfl, ?y11⟩) hHeld ?r11
  case y11 =>
    rintro w' hSw
    have e4 : w'.cell? ⟨g, 4, none⟩ = some (.int .i64 (used : Int)) := hSw.cell 4
    go_simp
    try with_reducible rfl
  try simp only [Act.put, List.setIfInBounds_toArray, List.set_cons_zero, List.set_cons_succ]
  refine wpAnyH_ready (rs := [6]) (by kernel_rfl) (by simp) ?_
  refine AllReadyH.cons rfl (fun K hK => ?_) AllReadyH.nil
  go_simp
  refine (HF.out).mono ?_
  rintro e w2 ⟨rfl, hx⟩
  subst hx
  refine hK _ _ R.out (fun _ => ?_)
  clear hK K
  try simp only [Act.put, List.setIfInBounds_toArray, List.set_cons_zero, List.set_cons_succ]
  refine wpAnyH_take (i := 12) (oi := ⟨some 15, _, _, _, _, _⟩) (v := ?v12) rfl (by kernel_rfl) (by kernel_rfl) (by kernel_rfl) (fun _ _ _ h => h) (Or.inl ⟨by rfl, ?y12⟩) R.out ?r12
  case y12 =>
    rintro w' hSw
    go_simp
    try with_reducible rfl
  try simp only [Act.put, List.setIfInBounds_toArray, List.set_cons_zero, List.set_cons_succ]
  refine wpAnyH_take (i := 13) (oi := ⟨some 2, _, _, _, _, _⟩) (v := ?v13) rfl (by kernel_rfl) (by kernel_rfl) (by kernel_rfl) (fun _ _ _ h => h) (Or.inl ⟨by rfl, ?y13⟩) R.out ?r13
  case y13 =>
    rintro w' hSw
    go_simp
    try with_reducible rfl
  try simp only [Act.put, List.setIfInBounds_toArray, List.set_cons_zero, List.set_cons_succ]
  refine wpAnyH_done (by kernel_rfl) ?_ _
  go_wp2
  go_ret
  exact ⟨ret_int (by simp), rfl⟩
theorem left_any (g dg area t n c used : Nat) (A : Option Addr) (br : Bool) (w : World) (h : Row w g 83 (wcs dg area t A n c used br)) (ha : area ≤ 1000) (hu : used ≤ area) :
    Calls Try.prog 24 #[.pointer (some ⟨g, 0, none⟩)] w fun e w' => e = .returned (.int .i64 ((area - used : Nat) : Int)) ∧ w' = w.drew := by
  have mixed : Try.prog.follows .mixedOrders = true := by kernel_rfl
  have R := Lib.hid h
  clear h
  have hsub : IntKind.i64.wrap ((area : Int) - (used : Int)) = (area : Int) - used := by
    rw [IntKind.wrap_i64]; omega
  go_enter Try.func24, Try.ntmps24
  go_wp2_with fail
  refine wp_region_held_drew (S := (fun w' => Row w' g 83 (wcs dg area t A n c used br))) (by kernel_rfl) R.out (fun hHeld => ?_)
  refine wpAnyH_take (i := 0) (oi := ⟨some 5, _, _, _, _, _⟩) (v := ?v0) rfl (by kernel_rfl) (by kernel_rfl) (by kernel_rfl) (fun _ _ _ h => h) (Or.inl ⟨by rfl, ?y0⟩) hHeld ?r0
  case y0 =>
    rintro w' hSw
    go_simp
    try with_reducible rfl
  try simp only [Act.put, List.setIfInBounds_toArray, List.set_cons_zero, List.set_cons_succ]
  refine wpAnyH_take (i := 1) (oi := ⟨some 6, _, _, _, _, _⟩) (v := ?v1) rfl (by kernel_rfl) (by kernel_rfl) (by kernel_rfl) (fun _ _ _ h => h) (Or.inl ⟨by rfl, ?y1⟩) hHeld ?r1
  case y1 =>
    rintro w' hSw
    go_simp
    try with_reducible rfl
  try simp only [Act.put, List.setIfInBounds_toArray, List.set_cons_zero, List.set_cons_succ]
  refine wpAnyH_take (i := 2) (oi := ⟨some 7, _, _, _, _, _⟩) (v := ?v2) rfl (by kernel_rfl) (by kernel_rfl) (by kernel_rfl) (fun _ _ _ h => h) (Or.inl ⟨by rfl, ?y2⟩) hHeld ?r2
  case y2 =>
    rintro w' hSw
    go_simp
    try with_reducible rfl
  try simp only [Act.put, List.setIfInBounds_toArray, List.set_cons_zero, List.set_cons_succ]
  refine wpAnyH_take (i := 3) (oi := ⟨some 8, _, _, _, _, _⟩) (v := ?v3) rfl (by kernel_rfl) (by kernel_rfl) (by kernel_rfl) (fun _ _ _ h => h) (Or.inl ⟨by rfl, ?y3⟩) hHeld ?r3
  case y3 =>
    rintro w' hSw
    have e1 : w'.cell? ⟨g, 1, none⟩ = some (.int .i64 (area : Int)) := hSw.cell 1
    go_simp
    try with_reducible rfl
  try simp only [Act.put, List.setIfInBounds_toArray, List.set_cons_zero, List.set_cons_succ]
  refine wpAnyH_take (i := 4) (oi := ⟨some 9, _, _, _, _, _⟩) (v := ?v4) rfl (by kernel_rfl) (by kernel_rfl) (by kernel_rfl) (fun _ _ _ h => h) (Or.inl ⟨by rfl, ?y4⟩) hHeld ?r4
  case y4 =>
    rintro w' hSw
    go_simp
    try with_reducible rfl
  try simp only [Act.put, List.setIfInBounds_toArray, List.set_cons_zero, List.set_cons_succ]
  refine wpAnyH_take (i := 5) (oi := ⟨some 10, _, _, _, _, _⟩) (v := ?v5) rfl (by kernel_rfl) (by kernel_rfl) (by kernel_rfl) (fun _ _ _ h => h) (Or.inl ⟨by rfl, ?y5⟩) hHeld ?r5
  case y5 =>
    rintro w' hSw
    go_simp
    try with_reducible rfl
  try simp only [Act.put, List.setIfInBounds_toArray, List.set_cons_zero, List.set_cons_succ]
  refine wpAnyH_take (i := 6) (oi := ⟨some 11, _, _, _, _, _⟩) (v := ?v6) rfl (by kernel_rfl) (by kernel_rfl) (by kernel_rfl) (fun _ _ _ h => h) (Or.inl ⟨by rfl, ?y6⟩) hHeld ?r6
  case y6 =>
    rintro w' hSw
    go_simp
    try with_reducible rfl
  try simp only [Act.put, List.setIfInBounds_toArray, List.set_cons_zero, List.set_cons_succ]
  refine wpAnyH_take (i := 7) (oi := ⟨some 12, _, _, _, _, _⟩) (v := ?v7) rfl (by kernel_rfl) (by kernel_rfl) (by kernel_rfl) (fun _ _ _ h => h) (Or.inl ⟨by rfl, ?y7⟩) hHeld ?r7
  case y7 =>
    rintro w' hSw
    go_simp
    try with_reducible rfl
  try simp only [Act.put, List.setIfInBounds_toArray, List.set_cons_zero, List.set_cons_succ]
  refine wpAnyH_take (i := 8) (oi := ⟨some 13, _, _, _, _, _⟩) (v := ?v8) rfl (by kernel_rfl) (by kernel_rfl) (by kernel_rfl) (fun _ _ _ h => h) (Or.inl ⟨by rfl, ?y8⟩) hHeld ?r8
  case y8 =>
    rintro w' hSw
    have e4 : w'.cell? ⟨g, 4, none⟩ = some (.int .i64 (used : Int)) := hSw.cell 4
    go_simp
    try with_reducible rfl
  try simp only [Act.put, List.setIfInBounds_toArray, List.set_cons_zero, List.set_cons_succ]
  refine wpAnyH_take (i := 9) (oi := ⟨some 14, _, _, _, _, _⟩) (v := ?v9) rfl (by kernel_rfl) (by kernel_rfl) (by kernel_rfl) (fun _ _ _ h => h) (Or.inl ⟨by rfl, ?y9⟩) hHeld ?r9
  case y9 =>
    rintro w' hSw
    go_simp
    try with_reducible rfl
  try simp only [Act.put, List.setIfInBounds_toArray, List.set_cons_zero, List.set_cons_succ]
  refine wpAnyH_take (i := 10) (oi := ⟨some 2, _, _, _, _, _⟩) (v := ?v10) rfl (by kernel_rfl) (by kernel_rfl) (by kernel_rfl) (fun _ _ _ h => h) (Or.inl ⟨by rfl, ?y10⟩) hHeld ?r10
  case y10 =>
    rintro w' hSw
    go_simp
    try with_reducible rfl
  try simp only [Act.put, List.setIfInBounds_toArray, List.set_cons_zero, List.set_cons_succ]
  refine wpAnyH_done (by kernel_rfl) ?_ _
  go_wp2
  go_ret
  exact ⟨ret_int (by omega), rfl⟩
theorem left_nil (w : World) : Calls Try.prog 24 #[.pointer none] w fun e w' => e = .returned (.int .i64 0) ∧ w = w' := by
  go_enter Try.func24, Try.ntmps24
  go_wp2
  go_ret
  exact ⟨rfl, rfl⟩
theorem len_log (g dg area t n c used : Nat) (A : Option Addr) (br : Bool) (w : World) (h : Row w g 83 (wcs dg area t A (n + 1) c used br)) (hn : n ≤ 100000) :
    Calls Try.prog 23 #[.pointer (some ⟨g, 0, none⟩)] w fun e w' => e = .returned (.int .i64 (n : Int)) ∧ w = w' := by
  have c3 : w.cell? ⟨g, 3, none⟩ = some (.slice A (n + 1) c) := h.cell 3
  go_enter Try.func23, Try.ntmps23
  go_wp2
  go_ret
  exact ⟨ret_int (by omega), rfl⟩
end Go.Proofs.Yteemdjamgbbjhaa.Wl

/-
  Append, where there is room.
-/
namespace Go.Proofs.Yteemdjamgbbjhaa.Wl
set_option maxRecDepth 100000
open Go.RowKit Go.Shelf Go.Proofs.Yteemdjamgbbjhaa.Wd Go.Proofs.Yteemdjamgbbjhaa.Dsk Go.Proofs.Yteemdjamgbbjhaa.Oct Go.Proofs.Yteemdjamgbbjhaa.Sum

/-- rows of bytes, and of slices of bytes, lie as they lay -/
def KeepR (w w' : World) : Prop := ∀ k t cs, t = 37 ∨ t = 5 → Row w k t cs → Row w' k t cs
theorem KeepR.trans {a b c : World} (h : KeepR a b) (k : KeepR b c) : KeepR a c := fun i t cs ht hr => k i t cs ht (h i t cs ht hr)
theorem keepR_below {w w' : World} (hb : Below w.heap.size w w') : KeepR w w' := fun _ _ _ _ hr => hr.below hb hr.lt
theorem keepR_off {w w' : World} {F : Nat → Prop} {g dg : Nat} {d : DM} {cs : List Value} (hd : Dk w F dg d) (hg : Row w g 83 cs) (ho : Off (fun k => F k ∨ k = g) w w') : KeepR w w' := fun k t cs' ht hr =>
  (ho.block k hr.lt (fun h => h.elim (fun h => by rcases ht with rfl | rfl <;> exact hd.not hr (by decide) (by decide) (by decide) h) (fun e => by
    subst e
    have := row_type hr hg
    rcases ht with rfl | rfl <;> exact absurd this (by decide)))).trans hr
theorem own_keepR {w w' : World} {e : TypeId} {v : Value} {n : Nat} {xs : List Value} (h : w.ownsRow 0 e 1 v n xs) (he : e = 37 ∨ e = 5) (hk : KeepR w w') : w'.ownsRow 0 e 1 v n xs := by
  rcases h with ⟨hl, hv | ⟨g, cap, cur, hv, hb, hg, hr⟩⟩
  · exact ⟨hl, .inl hv⟩
  · have h0 : Row w g e cur.toList := by show _ = _; simpa using hg
    have h1 : w'.heap[g]? = _ := hk g e _ he h0
    exact ⟨hl, .inr ⟨g, cap, cur, hv, hb, by simpa using h1, hr⟩⟩
theorem By.keepR {w w' : World} {A : Option Addr} {n c : Nat} {l : List UInt8} (h : By w A n c l) (hk : KeepR w w') : By w' A n c l := own_keepR h (.inr rfl) hk
theorem keepR_grown {w w' : World} {g : Nat} {t : TypeId} {cs : List Value} (hr : Row w g t cs) (ht : t ≠ 37 ∧ t ≠ 5) (hg : w.grownBy w' (some g)) : KeepR w w' := fun k t' cs' ht' hr' => (hg.block k hr'.lt (fun e => by
  cases e
  have := row_type hr hr'
  rcases ht' with rfl | rfl
  · exact ht.1 this
  · exact ht.2 this)).trans hr'
theorem Dk.grown {w w' : World} {F : Nat → Prop} {g dg : Nat} {t : TypeId} {cs : List Value} {d : DM} (h : Dk w F dg d) (hr : Row w g t cs) (h1 : t ≠ 77) (h2 : t ≠ 121) (h3 : t ≠ 89) (hg : w.grownBy w' (some g)) : Dk w' F dg d := by
  have hn : ¬ F g := h.not hr h1 h2 h3
  refine ⟨h.1.off (F' := fun k => k = g) (fun k hk e => hn (e ▸ hk)) (Off.of_grown hg (fun k e => (Option.some.inj e).symm)), fun k t' cs' hr' hk => ?_⟩
  have hkg : k ≠ g := fun e => hn (e ▸ hk)
  exact h.2 k t' cs' ((hg.block k (h.1.2 k hk) (fun e => hkg (Option.some.inj e))).symm.trans hr') hk
theorem own_type {w : World} {e : TypeId} {v : Value} {n k : Nat} {xs : List Value} (h : w.ownsRow 0 e 1 v n xs) (hk : v.ownBlock = some k) : ∃ cs, Row w k e cs := by
  rcases h.2 with ⟨hv, _⟩ | ⟨g', cap, cur, hv, _, hg', _⟩
  · rw [hv] at hk; cases hk
  · rw [hv] at hk
    cases hk
    exact ⟨cur.toList, by show _ = _; simpa using hg'⟩
/-- what an Append leaves, that has written -/
def Appd (w w' : World) (F G : Nat → Prop) (g dg area t : Nat) (fs : List (List UInt8)) (b : List UInt8) (d : DM) (f : Int) : Prop :=
  ∃ F' G', Dk w' F' dg (layM (pairsM t fs.length b) f d).1 ∧ Ext F F' w w' ∧ Ext G G' w w' ∧ Off (fun k => F k ∨ G k) w w' ∧
    Log w' G' g dg area t (if (layM (pairsM t fs.length b) f d).2 = 0 then fs ++ [b] else fs) (decide ((layM (pairsM t fs.length b) f d).2 ≠ 0))
theorem wcs_ccs (dg area t : Nat) (A : Option Addr) (n c u : Nat) (br : Bool) : ∀ j v, (ccs t A n c u)[j]? = some v → (wcs dg area t A n c u br)[2 + j]? = some v
  | 0, _, h => h
  | 1, _, h => h
  | 2, _, h => h
  | j + 3, _, h => by simp [ccs] at h
set_option maxHeartbeats 8000000 in
theorem append_ok (g dg area t : Nat) (fs : List (List UInt8)) (A2 : Option Addr) (m c2 : Nat) (b : List UInt8) (d : DM) (F G : Nat → Prop) (w : World)
    (hlog : Log w G g dg area t fs false) (hd : Dk w F dg d) (hs : Sl w w.heap.size A2 m c2 b) (hm : m ≤ 40000) (ha : area ≤ 1000) (ht : t < 4294967296) (hu : usedM fs ≤ area) (hroom : sects m ≤ area - usedM fs) (hn : fs.length ≤ 10000) (hp : d.pend.length ≤ 900000) :
    Calls Try.prog 16 #[.pointer (some ⟨g, 0, none⟩), .slice A2 m c2] w fun e w' => e = .returned (.int .i64 (layM (pairsM t fs.length b) ((2 + t % 2 * area + usedM fs : Nat) : Int) d).2) ∧
      Appd w w' F G g dg area t fs b d ((2 + t % 2 * area + usedM fs : Nat) : Int) := by
  have mixed : Try.prog.follows .mixedOrders = true := by kernel_rfl
  obtain ⟨A, c, xs, hrw, hown, hGg, hGo, hby⟩ := hlog
  obtain ⟨used, hus⟩ : ∃ used, usedM fs = used := ⟨_, rfl⟩
  rw [hus] at hrw hu hroom ⊢
  obtain ⟨n, hnl⟩ : ∃ n, fs.length = n := ⟨_, rfl⟩
  rw [hnl] at hrw hown hGo hby hn ⊢
  obtain ⟨fr, hfr⟩ : ∃ fr, 2 + t % 2 * area + used = fr := ⟨_, rfl⟩
  rw [hfr]
  have HFR := Lib.hid hfr
  clear hfr
  have hml : b.length = m := hs.len
  have HS := Lib.hid hs
  have HR := Lib.hid hrw
  have HO := Lib.hid hown
  have HBY := Lib.hid hby
  have HD := Lib.hid hd
  have HRF := Lib.hid (refuses_any g dg area t used n c A false A2 m c2 w hrw)
  have HSE := Lib.hid (sectors_any m w hm)
  have HLF := Lib.hid (left_any g dg area t n c used A false w hrw ha hu)
  have hrm : ¬ ((area - used : Nat) : Int) < (sects m : Int) := by omega
  have hGO := Lib.hid hGo
  have HUS := Lib.hid hus
  have HNL := Lib.hid hnl
  have hm2 : ¬ 40000 < m := by omega
  rw [if_neg hm2, if_neg (by simp)] at HRF
  clear hs hrw hown hby hd hGo hus hnl
  go_enter Try.func16, Try.ntmps16
  go_wp2_with fail
  refine (HRF.out).mono ?_
  rintro e w1 ⟨rfl, hx⟩
  subst hx
  go_wp2_with fail
  refine (HSE.out).mono ?_
  rintro e w1 ⟨rfl, hx⟩
  subst hx
  go_wp2_with fail
  refine (HLF.out).mono ?_
  rintro e w1 ⟨rfl, hw1⟩
  have hb1 : Below w.heap.size w w1 := by rw [hw1]; exact (Below.refl _ _).drew
  have R1 := Lib.hid (HR.out.below hb1 HR.out.lt)
  have HS1 := Lib.hid ((HS.out.below hb1).more hb1.size)
  have HB1 := Lib.hid hb1
  have HCI := Lib.hid (show (Try.prog.info? 81).map (·.size) = some (ccs t A n c used).length from size81)
  have HRG := Lib.hid (Row.range R1.out (wcs_ccs dg area t A n c used false))
  clear hb1 hw1 HRF HSE HLF
  go_wp2_with (first
    | (with_reducible refine wpList_load_row (op := ⟨some 23, _, _, _, _, _⟩) ?_ 81 (.tmp 22) ?_ g 2 ?_ (ccs t A n c used) _ HRG.out Try.underlying81 ?_ HCI.out ?_))
  all_goals try (first | rfl | (simp; done))
  go_wp2_with fail
  refine (next_any t n c used A A2 m c2 b w1 HS1.out hm (by omega) ht).mono ?_
  rintro e w2 ⟨Ab, cb, rfl, hby2, hab, hb2⟩
  have R2 := Lib.hid (R1.out.below hb2 R1.out.lt)
  have HB2 := Lib.hid (HB1.out.trans (hb2.mono HB1.out.size))
  have HBY2 := Lib.hid hby2
  have HAB : Hid (∀ k, (Value.slice Ab m cb).ownBlock = some k → w.heap.size ≤ k) := Lib.hid fun k hk => Nat.le_trans HB1.out.size (hab k hk)
  have HLC := Lib.hid (show (fcs t n Ab m cb).length = nofr.length from rfl)
  have HI := Lib.hid (show (Try.prog.info? 101).map (·.size) = some (fcs t n Ab m cb).length from size101)
  clear hby2 hab hb2
  go_wp2_with (first
    | (with_reducible refine wpList_store_whole (op := ⟨none, _, _, _, _, _⟩) ?_ 101 (.tmp 6) (.tmp 25) ?_ w2.heap.size (fcs t n Ab m cb) ?_ ?_ 101 nofr ?hrow HLC.out (fcs_one _ _ _ _ _) HI.out ?_))
  case hrow => exact Row.new w2 _ nofr
  all_goals try (first | rfl | (simp; done))
  intro w3 hr3 hg3
  have hb3 : Below w2.heap.size w2 w3 := ((Below.refl _ _).alloc (Nat.le_refl _) _).grown hg3 (by simp) (fun k hk => by cases hk; exact Nat.le_refl _)
  obtain ⟨b6, hb6⟩ : ∃ b6, w2.heap.size = b6 := ⟨_, rfl⟩
  have hb6w : w.heap.size ≤ b6 := by rw [← hb6]; exact HB2.out.size
  rw [hb6] at hr3
  have R3 := Lib.hid (R2.out.below hb3 R2.out.lt)
  have R63 := Lib.hid hr3
  have HB3 := Lib.hid (HB2.out.trans (hb3.mono HB2.out.size))
  have HBY3 := Lib.hid (HBY2.out.keepR (keepR_below hb3))
  have HB6 := Lib.hid hb6w
  clear hr3 hg3 hb3 hb6w
  go_wp2_with fail
  rw [hb6]
  clear hb6
  refine wp_region_held_drew (S := (fun w' => Row w' b6 101 (fcs t n Ab m cb))) (by kernel_rfl) R63.out (fun hHeld => ?_)
  refine wpAnyH_take (i := 0) (oi := ⟨some 26, _, _, _, _, _⟩) (v := ?v0) rfl (by kernel_rfl) (by kernel_rfl) (by kernel_rfl) (fun _ _ _ h => h) (Or.inl ⟨by rfl, ?y0⟩) hHeld ?r0
  case y0 =>
    rintro w' hSw
    go_simp
    try with_reducible rfl
  try simp only [Act.put, List.setIfInBounds_toArray, List.set_cons_zero, List.set_cons_succ]
  refine wpAnyH_take (i := 1) (oi := ⟨some 27, _, _, _, _, _⟩) (v := ?v1) rfl (by kernel_rfl) (by kernel_rfl) (by kernel_rfl) (fun _ _ _ h => h) (Or.inl ⟨by rfl, ?y1⟩) hHeld ?r1
  case y1 =>
    rintro w' hSw
    go_simp
    try with_reducible rfl
  try simp only [Act.put, List.setIfInBounds_toArray, List.set_cons_zero, List.set_cons_succ]
  refine wpAnyH_take (i := 3) (oi := ⟨some 29, _, _, _, _, _⟩) rfl (by kernel_rfl) (by kernel_rfl) (by kernel_rfl) (fun _ _ _ h => h) (yieldsIf_load_mid (by rfl) 101 (.tmp 6) rfl b6 0 ?x3 (fcs t n Ab m cb) _ (fun _ hS => Row.all hS) Try.underlying101 rfl HI.out) hHeld ?r3
  case x3 => first | rfl | (simp [Act.eval, go_sem]; done)
  try simp only [Act.put, List.setIfInBounds_toArray, List.set_cons_zero, List.set_cons_succ]
  refine wpAnyH_ready (rs := [2]) (by kernel_rfl) (by simp) ?_
  refine AllReadyH.cons rfl (fun K hK => ?_) AllReadyH.nil
  go_simp
  refine (end_any g dg area t n c used A false w3.drew (Row.drew R3.out) ha ht (by omega)).mono ?_
  rintro e w4 ⟨rfl, hw4⟩
  have hb4 : Below w3.heap.size w3 w4 := by rw [hw4]; exact (Below.refl _ _).drew.drew
  clear hw4
  have R64 := Lib.hid (R63.out.below hb4 R63.out.lt)
  have HB4 := Lib.hid (HB3.out.trans (hb4.mono HB3.out.size))
  have HBY4 := Lib.hid (HBY3.out.keepR (keepR_below hb4))
  clear hb4
  refine hK _ _ R64.out (fun _ => ?_)
  clear hK K
  try simp only [Act.put, List.setIfInBounds_toArray, List.set_cons_zero, List.set_cons_succ]
  refine wpAnyH_ready (rs := [4]) (by kernel_rfl) (by simp) ?_
  refine AllReadyH.cons rfl (fun K hK => ?_) AllReadyH.nil
  go_simp
  refine (parts_any t n Ab m cb w4).mono ?_
  rintro e w5 ⟨rfl, hw5⟩
  have r95 : Row w5 w4.heap.size 101 (fcs t n Ab m cb) := by rw [hw5]; exact Row.new w4 _ _
  have hb5 : Below w4.heap.size w4 w5 := by rw [hw5]; exact (Below.refl _ _).alloc (Nat.le_refl _) _
  clear hw5
  have R65 := Lib.hid (R64.out.below hb5 R64.out.lt)
  have HB5 := Lib.hid (HB4.out.trans (hb5.mono HB4.out.size))
  have HBY5 := Lib.hid (HBY4.out.keepR (keepR_below hb5))
  have R95 := Lib.hid r95
  clear hb5 r95
  refine hK _ _ R65.out (fun _ => ?_)
  clear hK K
  try simp only [Act.put, List.setIfInBounds_toArray, List.set_cons_zero, List.set_cons_succ]
  refine wpAnyH_ready (rs := [5]) (by kernel_rfl) (by simp) ?_
  refine AllReadyH.cons rfl (fun K hK => ?_) AllReadyH.nil
  go_simp
  have hfr := HFR.out
  have hf1 : fr ≤ 10000 := by
    rw [← hfr]
    rcases Nat.mod_two_eq_zero_or_one t with e | e <;> rw [e] <;> omega
  have hl2 : (pairsM t n b).length = sects b.length := by simp [pairsM]
  have hl3 := sects_most b.length (by omega)
  have R5 : Row w5 g 83 (wcs dg area t A n c used false) := HR.out.below HB5.out HR.out.lt
  have HLY := lay_dk g dg area t n c used A false fr _ _ (pairsM t n b) d F w5 R5 (HD.out.below HB5.out) (by omega) hf1 (enters_of Try.func78 (by kernel_rfl) rfl) (parts_seq R95.out HBY5.out hm ht (by omega))
  have hfi2 : (2 : Int) + (t : Int) % 2 * (area : Int) + (used : Int) = (fr : Int) := by rw [← hfr]; simp
  rw [hfi2]
  refine HLY.mono ?_
  rintro e w6 ⟨rfl, F6, hd6, hx6, ho6, hr6⟩
  obtain ⟨d1, hd1⟩ : ∃ d1, (layM (pairsM t n b) (fr : Int) d).1 = d1 := ⟨_, rfl⟩
  obtain ⟨er, her⟩ : ∃ er, (layM (pairsM t n b) (fr : Int) d).2 = er := ⟨_, rfl⟩
  rw [hd1] at hd6
  rw [her] at hr6 ⊢
  rw [Bool.false_or] at hr6
  have hk6 : KeepR w5 w6 := keepR_off (HD.out.below HB5.out) R5 ho6
  have hk06 : KeepR w w6 := (keepR_below HB5.out).trans hk6
  have R66 : Hid (Row w6 b6 101 (fcs t n Ab m cb)) := (ho6.block _ R65.out.lt (fun h => h.elim ((HD.out.below HB5.out).not R65.out (by decide) (by decide) (by decide)) (fun e => by have := HB6.out; have := HR.out.lt; omega))).trans R65.out
  have HBY6 := Lib.hid (HBY5.out.keepR hk6)
  have HO6 : Hid (w6.ownsRow 0 37 1 (.slice A n c) n xs) := Lib.hid (own_keepR HO.out (.inl rfl) hk06)
  have HBYS : Hid (∀ i, i < n → ∃ Ai ni ci, xs[i]? = some (.slice Ai ni ci) ∧ By w6 Ai ni ci (fs.getD i []) ∧ ni ≤ 40000 ∧ ∀ k, (Value.slice Ai ni ci).ownBlock = some k → G k) := Lib.hid fun i hi => by
    obtain ⟨Ai, ni, ci, h1, h2, h3, h4⟩ := HBY.out i hi
    exact ⟨Ai, ni, ci, h1, h2.keepR hk06, h3, h4⟩
  have HOF6 : Hid (Off (fun k => F k ∨ G k) w w6) := Lib.hid ⟨ho6.os.trans HB5.out.os, ho6.tape.trans HB5.out.tape, ho6.output.trans HB5.out.output, Nat.le_trans HB5.out.size ho6.size, fun k hk hn => (ho6.block k (Nat.lt_of_lt_of_le hk HB5.out.size) (fun h => h.elim (fun h => hn (.inl h)) (fun e => hn (.inr (e ▸ hGg))))).trans (HB5.out.block k hk)⟩
  have HX6 : Hid (Ext F F6 w w6) := Lib.hid fun k hk => by
    rcases hx6 k hk with h | h
    · exact .inl h
    · exact .inr ⟨Nat.le_trans HB5.out.size h.1, h.2⟩
  have HD6 := Lib.hid hd6
  have HR6 := Lib.hid hr6
  have HD1 := Lib.hid hd1
  have HER := Lib.hid her
  clear HLY hd6 hx6 ho6 hr6 hd1 her hk6 hk06 hfr hf1 hl2 hl3 R5 hfi2
  refine hK _ _ R66.out (fun _ => ?_)
  clear hK K
  try simp only [Act.put, List.setIfInBounds_toArray, List.set_cons_zero, List.set_cons_succ]
  refine wpAnyH_take (i := 6) (oi := ⟨some 7, _, _, _, _, _⟩) (v := ?v6) rfl (by kernel_rfl) (by kernel_rfl) (by kernel_rfl) (fun _ _ _ h => h) (Or.inl ⟨by rfl, ?y6⟩) R66.out ?r6
  case y6 =>
    rintro w' hSw
    go_simp
    try with_reducible rfl
  try simp only [Act.put, List.setIfInBounds_toArray, List.set_cons_zero, List.set_cons_succ]
  refine wpAnyH_done (by kernel_rfl) ?_ _
  by_cases h0 : er = 0
  · subst h0
    go_wp2_with fail
    refine wp_region_held_drew (S := (fun w' => Row w' b6 101 (fcs t n Ab m cb))) (by kernel_rfl) R66.out (fun hHeld2 => ?_)
    refine wpAnyH_take (i := 0) (oi := ⟨some 35, _, _, _, _, _⟩) (v := ?v0z) rfl (by kernel_rfl) (by kernel_rfl) (by kernel_rfl) (fun _ _ _ h => h) (Or.inl ⟨by rfl, ?y0z⟩) hHeld2 ?r0z
    case y0z =>
      rintro w' hSw
      go_simp
      try with_reducible rfl
    try simp only [Act.put, List.setIfInBounds_toArray, List.set_cons_zero, List.set_cons_succ]
    refine wpAnyH_take (i := 1) (oi := ⟨some 36, _, _, _, _, _⟩) (v := ?v1z) rfl (by kernel_rfl) (by kernel_rfl) (by kernel_rfl) (fun _ _ _ h => h) (Or.inl ⟨by rfl, ?y1z⟩) hHeld2 ?r1z
    case y1z =>
      rintro w' hSw
      go_simp
      try with_reducible rfl
    try simp only [Act.put, List.setIfInBounds_toArray, List.set_cons_zero, List.set_cons_succ]
    refine wpAnyH_take (i := 2) (oi := ⟨some 37, _, _, _, _, _⟩) (v := ?v2z) rfl (by kernel_rfl) (by kernel_rfl) (by kernel_rfl) (fun _ _ _ h => h) (Or.inl ⟨by rfl, ?y2z⟩) hHeld2 ?r2z
    case y2z =>
      rintro w' hSw
      go_simp
      try with_reducible rfl
    try simp only [Act.put, List.setIfInBounds_toArray, List.set_cons_zero, List.set_cons_succ]
    refine wpAnyH_take (i := 3) (oi := ⟨some 38, _, _, _, _, _⟩) (v := ?v3z) rfl (by kernel_rfl) (by kernel_rfl) (by kernel_rfl) (fun _ _ _ h => h) (Or.inl ⟨by rfl, ?y3z⟩) hHeld2 ?r3z
    case y3z =>
      rintro w' hSw
      go_simp
      try with_reducible rfl
    try simp only [Act.put, List.setIfInBounds_toArray, List.set_cons_zero, List.set_cons_succ]
    refine wpAnyH_take (i := 5) (oi := ⟨some 40, _, _, _, _, _⟩) rfl (by kernel_rfl) (by kernel_rfl) (by kernel_rfl) (fun _ _ _ h => h) (yieldsIf_load_mid (by rfl) 101 (.tmp 6) rfl b6 0 ?x5z (fcs t n Ab m cb) _ (fun _ hS => Row.all hS) Try.underlying101 rfl HI.out) hHeld2 ?r5z
    case x5z => first | rfl | (simp [Act.eval, go_sem]; done)
    try simp only [Act.put, List.setIfInBounds_toArray, List.set_cons_zero, List.set_cons_succ]
    have HRG6 := Lib.hid (Row.range (Row.drew HR6.out) (wcs_ccs dg area t A n c used (decide ((0 : Int) ≠ 0))))
    refine wpAnyH_ready (rs := [4]) (by kernel_rfl) (by simp) ?_
    refine AllReadyH.cons rfl (fun K hK => ?_) AllReadyH.nil
    rw [if_pos (by rfl)]
    refine wp_load_mid 81 (.tmp 38) rfl g 2 (by rfl) (ccs t A n c used) _ HRG6.out Try.underlying81 rfl HCI.out ?_
    refine hK _ _ R66.out (fun _ => ?_)
    clear hK K
    try simp only [Act.put, List.setIfInBounds_toArray, List.set_cons_zero, List.set_cons_succ]
    refine wpAnyH_ready (rs := [6]) (by kernel_rfl) (by simp) ?_
    refine AllReadyH.cons rfl (fun K hK => ?_) AllReadyH.nil
    go_simp
    refine (with_any t n c used A xs t n Ab m cb w6.drew (own_below HO6.out (Below.refl _ _).drew) hm (by omega) (by omega)).mono ?_
    rintro e w7 ⟨A', c', rfl, hown, hblk, hgd⟩
    replace hgd : w6.grownBy w7 (Value.slice A n c).ownBlock := ⟨hgd.os, hgd.tape, hgd.output, hgd.size, hgd.block⟩
    replace hblk : ∀ k, (Value.slice A' (n + 1) c').ownBlock = some k → (Value.slice A n c).ownBlock = some k ∨ w6.heap.size ≤ k := hblk
    have hne : ∀ k t' cs, Row w6 k t' cs → t' ≠ 37 → some k ≠ (Value.slice A n c).ownBlock := fun k t' cs hr ht e => by
      obtain ⟨cs', h'⟩ := own_type HO6.out e.symm
      exact ht (row_type hr h')
    have R67 : Hid (Row w7 b6 101 (fcs t n Ab m cb)) := R66.out.grown hgd (hne _ _ _ R66.out (by decide))
    have HR7 : Hid (Row w7 g 83 (wcs dg area t A n c used (decide ((0 : Int) ≠ 0)))) := HR6.out.grown hgd (hne _ _ _ HR6.out (by decide))
    have hby7 : ∀ {A2 : Option Addr} {n2 c2 : Nat} {l : List UInt8}, By w6 A2 n2 c2 l → By w7 A2 n2 c2 l := fun h => own_kept h fun k hk hlt => by
      obtain ⟨cs', h'⟩ := own_type h hk
      exact hgd.block k hlt (hne _ _ _ h' (by decide))
    have HBY7 := Lib.hid (hby7 HBY6.out)
    have HBYS7 : Hid (∀ i, i < n → ∃ Ai ni ci, xs[i]? = some (.slice Ai ni ci) ∧ By w7 Ai ni ci (fs.getD i []) ∧ ni ≤ 40000 ∧ ∀ k, (Value.slice Ai ni ci).ownBlock = some k → G k) := Lib.hid fun i hi => by
      obtain ⟨Ai, ni, ci, h1, h2, h3, h4⟩ := HBYS.out i hi
      exact ⟨Ai, ni, ci, h1, hby7 h2, h3, h4⟩
    have HO7 : Hid (w7.ownsRow 0 37 1 (.slice A' (n + 1) c') (n + 1) (xs ++ [.slice Ab m cb])) := hown
    have HBK : Hid (∀ k, (Value.slice A' (n + 1) c').ownBlock = some k → G k ∨ w.heap.size ≤ k) := Lib.hid fun k hk => by
      rcases hblk k hk with h | h
      · exact .inl (hGO.out k h)
      · exact .inr (Nat.le_trans HOF6.out.size h)
    have HD7 : Hid (Dk w7 F6 dg d1) := Lib.hid ⟨HD6.out.1.off (F' := fun k => (Value.slice A n c).ownBlock = some k) (fun k hk e => by
      obtain ⟨cs', h'⟩ := own_type HO6.out e
      exact HD6.out.not h' (by decide) (by decide) (by decide) hk) (Off.of_grown hgd (fun k e => e)), fun k t' cs' hr hk => HD6.out.2 k t' cs' ((hgd.block k (HD6.out.1.2 k hk) (fun e => by
      obtain ⟨cs', h'⟩ := own_type HO6.out e.symm
      exact HD6.out.not h' (by decide) (by decide) (by decide) hk)).symm.trans hr) hk⟩
    have HOF7 : Hid (Off (fun k => F k ∨ G k) w w7) := Lib.hid (HOF6.out.grown hgd (fun r e => .inl (.inr (hGO.out r e))))
    have HSZ7 : Hid (w6.heap.size ≤ w7.heap.size) := hgd.size
    clear hown hblk hgd hne hby7
    refine hK _ _ R67.out (fun _ => ?_)
    clear hK K
    try simp only [Act.put, List.setIfInBounds_toArray, List.set_cons_zero, List.set_cons_succ]
    refine wpAnyH_take (i := 7) (oi := ⟨some 42, _, _, _, _, _⟩) (v := ?v7z) rfl (by kernel_rfl) (by kernel_rfl) (by kernel_rfl) (fun _ _ _ h => h) (Or.inl ⟨by rfl, ?y7z⟩) R67.out ?r7z
    case y7z =>
      rintro w' hSw
      go_simp
      try with_reducible rfl
    try simp only [Act.put, List.setIfInBounds_toArray, List.set_cons_zero, List.set_cons_succ]
    refine wpAnyH_take (i := 8) (oi := ⟨some 43, _, _, _, _, _⟩) (v := ?v8z) rfl (by kernel_rfl) (by kernel_rfl) (by kernel_rfl) (fun _ _ _ h => h) (Or.inl ⟨by rfl, ?y8z⟩) R67.out ?r8z
    case y8z =>
      rintro w' hSw
      go_simp
      try with_reducible rfl
    try simp only [Act.put, List.setIfInBounds_toArray, List.set_cons_zero, List.set_cons_succ]
    refine wpAnyH_ready (rs := [9]) (by kernel_rfl) (by simp) ?_
    refine AllReadyH.cons rfl (fun K hK => ?_) AllReadyH.nil
    have HCI7 : Hid ((Try.prog.info? 81).map (·.size) = some (ccs t A' (n + 1) c' (used + sects m)).length) := Lib.hid size81
    rw [if_pos (by rfl)]
    refine wp_store_mid 81 (.tmp 43) (.tmp 41) rfl g 2 (ccs t A' (n + 1) c' (used + sects m)).toArray (by rfl) (by rfl) (Row.there HR7.out (by exact Nat.le_of_ble_eq_true rfl)) HCI7.out (all_oneCell_toArray (ccs_one _ _ _ _ _)) ?_
    rw [List.toList_toArray]
    have hr8 := Row.setCells (ccs t A' (n + 1) c' (used + sects m)) 2 (wcs dg area t A n c used (decide ((0 : Int) ≠ 0))) w7 HR7.out (by exact Nat.le_of_ble_eq_true rfl)
    have hg8 := grown_setCells g (ccs t A' (n + 1) c' (used + sects m)) 2 w7
    generalize w7.setCells g 2 (ccs t A' (n + 1) c' (used + sects m)) = w8 at hr8 hg8 ⊢
    have hkr : KeepR w7 w8 := keepR_grown HR7.out (by decide) hg8
    have R68 : Hid (Row w8 b6 101 (fcs t n Ab m cb)) := R67.out.grown hg8 (fun e => by have := row_type R67.out ((Option.some.inj e) ▸ HR7.out); exact absurd this (by decide))
    have HFIN : Hid (Row w8 g 83 (wcs dg area t A' (n + 1) c' (used + sects m) false) ∧ w8.ownsRow 0 37 1 (.slice A' (n + 1) c') (n + 1) (xs ++ [.slice Ab m cb]) ∧ By w8 Ab m cb b ∧
        (∀ i, i < n → ∃ Ai ni ci, xs[i]? = some (.slice Ai ni ci) ∧ By w8 Ai ni ci (fs.getD i []) ∧ ni ≤ 40000 ∧ ∀ k, (Value.slice Ai ni ci).ownBlock = some k → G k) ∧ Dk w8 F6 dg d1 ∧ Off (fun k => F k ∨ G k) w w8 ∧ w6.heap.size ≤ w8.heap.size) := Lib.hid
      ⟨by simpa [splice, wcs, ccs] using hr8, own_keepR HO7.out (.inl rfl) hkr, HBY7.out.keepR hkr, fun i hi => by
        obtain ⟨Ai, ni, ci, h1, h2, h3, h4⟩ := HBYS7.out i hi
        exact ⟨Ai, ni, ci, h1, h2.keepR hkr, h3, h4⟩, HD7.out.grown HR7.out (by decide) (by decide) (by decide) hg8, HOF7.out.grown hg8 (fun r e => .inl (.inr ((Option.some.inj e) ▸ hGg))), Nat.le_trans HSZ7.out hg8.size⟩
    clear hr8 hg8 hkr
    refine hK _ _ R68.out (fun _ => ?_)
    clear hK K
    try simp only [Act.put, List.setIfInBounds_toArray, List.set_cons_zero, List.set_cons_succ]
    refine wpAnyH_done (by kernel_rfl) ?_ _
    go_wp2
    go_ret
    obtain ⟨f1, f2, f3, f4, f5, f6, f7⟩ := HFIN.out
    have hxl : xs.length = n := by have := HO.out.1; omega
    refine ⟨ret_int HER.out.symm, F6, fun k => G k ∨ (w.heap.size ≤ k ∧ k < w8.heap.size), by rw [HNL.out, HD1.out]; exact f5, fun k hk => ?_, fun k hk => hk, f6, ?_⟩
    · rcases HX6.out k hk with h | h
      · exact .inl h
      · exact .inr ⟨h.1, Nat.lt_of_lt_of_le h.2 f7⟩
    · have hus : usedM (fs ++ [b]) = used + sects m := by
        have := HUS.out
        simp only [usedM, List.map_append, List.sum_append, List.map_cons, List.map_nil, List.sum_cons, List.sum_nil] at this ⊢
        rw [this, hml]; omega
      rw [if_pos (by rw [HNL.out]; exact HER.out), HNL.out, HER.out]
      refine ⟨A', c', xs ++ [.slice Ab m cb], ?_, ?_, .inl hGg, ?_, ?_⟩
      · rw [hus, List.length_append, HNL.out]; exact f1
      · rw [List.length_append, HNL.out]; exact f2
      · rw [List.length_append, HNL.out]
        intro k hk
        rcases HBK.out k hk with h | h
        · exact .inl h
        · exact .inr ⟨h, own_lt f2 hk⟩
      · rw [List.length_append, HNL.out]
        intro i hi
        have hi2 : i ≤ n := by simpa using Nat.le_of_lt_succ hi
        by_cases hin : i < n
        · obtain ⟨Ai, ni, ci, h1, h2, h3, h4⟩ := f4 i hin
          refine ⟨Ai, ni, ci, ?_, ?_, h3, fun k hk => .inl (h4 k hk)⟩
          · rw [List.getElem?_append_left (by omega)]; exact h1
          · rw [List.getD_eq_getElem?_getD, List.getElem?_append_left (by rw [HNL.out]; exact hin), ← List.getD_eq_getElem?_getD]; exact h2
        · obtain rfl : i = n := by omega
          refine ⟨Ab, m, cb, ?_, ?_, hm, fun k hk => .inr ⟨HAB.out k hk, own_lt f3 hk⟩⟩
          · rw [List.getElem?_append_right (by omega), hxl, Nat.sub_self]; rfl
          · rw [List.getD_eq_getElem?_getD, List.getElem?_append_right (by rw [HNL.out]; omega), HNL.out, Nat.sub_self]; exact f3
  · go_wp2
    go_ret
    refine ⟨ret_int HER.out.symm, F6, G, by rw [HNL.out, HD1.out]; exact HD6.out, HX6.out, Ext.refl _ _ _, HOF6.out, ?_⟩
    rw [if_neg (by rw [HNL.out, HER.out]; exact h0), HNL.out, HER.out]
    refine ⟨A, c, xs, ?_, ?_, hGg, ?_, ?_⟩
    · rw [HUS.out, HNL.out]; exact HR6.out
    · rw [HNL.out]; exact HO6.out
    · rw [HNL.out]; exact hGO.out
    · rw [HNL.out]; exact HBYS.out
end Go.Proofs.Yteemdjamgbbjhaa.Wl

/-
  Sectors are read.
-/
namespace Go.Proofs.Yteemdjamgbbjhaa.Wl
set_option maxRecDepth 100000
open Go.RowKit Go.Shelf Go.Proofs.Yteemdjamgbbjhaa.Wd Go.Proofs.Yteemdjamgbbjhaa.Dsk Go.Proofs.Yteemdjamgbbjhaa.Oct Go.Proofs.Yteemdjamgbbjhaa.Sum

/-- sectors are read, one by one: the disk behind it, what they held, the first error -/
def rdM : List Int → DM → DM × List (List UInt8) × Int
  | [], d => (d, [], 0)
  | i :: is, d => if (d.readM i).2.2 ≠ 0 then ((d.readM i).1, [], (d.readM i).2.2) else ((rdM is (d.readM i).1).1, (d.readM i).2.1 :: (rdM is (d.readM i).1).2.1, (rdM is (d.readM i).1).2.2)
def idxs (f n : Nat) : List Int := (List.range n).map fun (i : Nat) => ((f + i : Nat) : Int)
theorem rdM_snoc (is : List Int) (i : Int) : ∀ d : DM, (rdM is d).2.2 = 0 → rdM (is ++ [i]) d = if ((rdM is d).1.readM i).2.2 ≠ 0 then (((rdM is d).1.readM i).1, (rdM is d).2.1, ((rdM is d).1.readM i).2.2) else (((rdM is d).1.readM i).1, (rdM is d).2.1 ++ [((rdM is d).1.readM i).2.1], 0) := by
  induction is with
  | nil =>
    intro d _
    show (if _ then _ else _) = _
    split <;> rename_i h
    · rw [if_pos (show ((rdM [] d).1.readM i).2.2 ≠ 0 from h)]; rfl
    · rw [if_neg (show ¬ ((rdM [] d).1.readM i).2.2 ≠ 0 from h)]; rfl
  | cons j is ih =>
    intro d h
    have h2 : ∀ rs, rdM (j :: rs) d = if (d.readM j).2.2 ≠ 0 then ((d.readM j).1, [], (d.readM j).2.2) else ((rdM rs (d.readM j).1).1, (d.readM j).2.1 :: (rdM rs (d.readM j).1).2.1, (rdM rs (d.readM j).1).2.2) := fun _ => rfl
    rw [h2] at h
    by_cases hn : (d.readM j).2.2 ≠ 0
    · rw [if_pos hn] at h; exact absurd h hn
    · rw [if_neg hn] at h
      rw [List.cons_append, h2, h2, if_neg hn, if_neg hn, ih _ h]
      simp only
      split <;> simp
theorem rdM_pre (is js : List Int) : ∀ d : DM, (rdM is d).2.2 ≠ 0 → (rdM (is ++ js) d).1 = (rdM is d).1 ∧ (rdM (is ++ js) d).2.2 = (rdM is d).2.2 := by
  induction is with
  | nil => intro d h; exact absurd rfl h
  | cons j is ih =>
    intro d h
    have h2 : ∀ rs, rdM (j :: rs) d = if (d.readM j).2.2 ≠ 0 then ((d.readM j).1, [], (d.readM j).2.2) else ((rdM rs (d.readM j).1).1, (d.readM j).2.1 :: (rdM rs (d.readM j).1).2.1, (rdM rs (d.readM j).1).2.2) := fun _ => rfl
    rw [h2] at h
    rw [List.cons_append, h2, h2]
    by_cases hn : (d.readM j).2.2 ≠ 0
    · rw [if_pos hn, if_pos hn]; exact ⟨rfl, rfl⟩
    · rw [if_neg hn] at h
      rw [if_neg hn, if_neg hn]
      exact ih _ h
theorem idxs_succ (f r : Nat) : idxs f (r + 1) = idxs f r ++ [((f + r : Nat) : Int)] := by simp [idxs, List.range_succ]
theorem idxs_split (f a b : Nat) : idxs f a ++ ((List.range b).map fun (i : Nat) => ((f + (a + i) : Nat) : Int)) = idxs f (a + b) := by
  unfold idxs
  rw [List.range_add, List.map_append, List.map_map]
  rfl
theorem readM_blk (d : DM) (i : Int) (h : Dsk.Good d) : (d.readM i).2.1.length = 64 := by
  unfold DM.readM
  split
  · rename_i hz
    refine sec_len h ?_
    have : ¬ ((d.sec.length : Int) ≤ i) ∧ ¬ i < 0 := by
      constructor <;> (intro hc; revert hz; unfold DM.pre; split; simp; simp [hc])
    have := h.pos
    omega
  · rfl
theorem Disk.good {w : World} {F : Nat → Prop} {g : Nat} {d : DM} (h : Disk w F g d) : Dsk.Good d := by
  obtain ⟨⟨_, _, _, h1⟩, _⟩ := h
  exact h1.good
theorem flat_len (L : List (List UInt8)) (h : ∀ b ∈ L, b.length = 64) : L.flatten.length = L.length * 64 := by
  induction L with
  | nil => rfl
  | cons b L ih =>
    rw [List.flatten_cons, List.length_append, h b (by simp), ih (fun c hc => h c (by simp [hc])), List.length_cons]
    omega
theorem splice_mid (A B C X : List Value) (h : B.length = X.length) : splice (A ++ B ++ C) A.length X = A ++ X ++ C := by
  simp only [splice]
  rw [← h, ← List.length_append, List.drop_left, List.append_assoc A, List.take_left, List.append_assoc]
/-- the row of blocks, one of them put in -/
theorem splice_flat (L M : List (List UInt8)) (x y : List UInt8) (hL : ∀ b ∈ L, b.length = 64) (hx : x.length = 64) (hy : y.length = 64) : splice (bv (L ++ y :: M).flatten) (L.length * 64) (bv x) = bv (L ++ x :: M).flatten := by
  have hl := flat_len L hL
  simp only [List.flatten_append, List.flatten_cons, bv_append]
  rw [← List.append_assoc, ← List.append_assoc, ← hl, ← bv_length L.flatten]
  exact splice_mid _ _ _ _ (by rw [bv_length, bv_length, hx, hy])
/-- what a read of sectors answers and leaves -/
def Rd (w w' : World) (F : Nat → Prop) (dg f n : Nat) (d : DM) (e : Ending) : Prop :=
  ∃ v F', e = .returned (.tuple #[v, .int .i64 (rdM (idxs f n) d).2.2]) ∧
      Dk w' F' dg (rdM (idxs f n) d).1 ∧ Ext F F' w w' ∧ Off F w w' ∧ ((rdM (idxs f n) d).2.2 = 0 → ∃ gs, v = .slice (some ⟨gs, 0, none⟩) n n ∧ w.heap.size ≤ gs ∧ ¬ F' gs ∧ Row w' gs 89 (bv (rdM (idxs f n) d).2.1.flatten) ∧ (rdM (idxs f n) d).2.1.length = n ∧ ∀ x ∈ (rdM (idxs f n) d).2.1, x.length = 64)
set_option maxHeartbeats 8000000 in
theorem rd_any (dg f n : Nat) (d : DM) (F : Nat → Prop) (w : World) (hd : Dk w F dg d) (hf : f ≤ 10000) (hn : n ≤ 2000) :
    Calls Try.prog 61 #[.pointer (some ⟨dg, 0, none⟩), .int .i64 (f : Int), .int .i64 (n : Int)] w fun e w' => Rd w w' F dg f n d e := by
  have HD := Lib.hid hd
  have hmk := make_blks n (by omega)
  clear hd
  go_enter Try.func61, Try.ntmps61
  go_wp2_with fail
  refine nw fun w1 hw1 => ?_
  have rs : Row w1 w.heap.size 89 (bv (List.replicate n nought).flatten) := by
    have e2 : bv nought = List.replicate 64 (.int .u8 0) := (bv_zero 64).symm
    have e3 : bv (List.replicate n nought).flatten = List.replicate (n * 64) (.int .u8 0) := by
      show bv (List.replicate n (List.replicate 64 0)).flatten = _
      rw [List.flatten_replicate_replicate, ← bv_zero]
    rw [← hw1, e2, made_rep _ _ _ (by omega), e3]
    exact Row.new w 89 _
  have hbs : Below w.heap.size w w1 := by rw [← hw1]; exact (Below.refl _ _).alloc (Nat.le_refl _) _
  have hs1 : w1.heap.size = w.heap.size + 1 := by rw [← hw1]; simp
  have hd1 : Disk w1 F dg d := HD.out.1.below hbs
  obtain ⟨gs, hgs⟩ : ∃ gs, w.heap.size = gs := ⟨_, rfl⟩
  rw [hgs] at rs ⊢
  clear hw1 hmk
  have hgF : ¬ F gs := fun h => by have := HD.out.1.2 gs h; omega
  have HGF := Lib.hid hgF
  have HBS := Lib.hid hbs
  have HGS := Lib.hid hgs
  have HS1 := Lib.hid hs1
  go_loopw [16] (fun i wr => ∃ r : Nat, r ≤ n ∧ i = .int .i64 (r : Int) ∧ Hid (Disk wr F dg (rdM (idxs f r) d).1 ∧ (rdM (idxs f r) d).2.2 = 0 ∧ (rdM (idxs f r) d).2.1.length = r ∧ (∀ x ∈ (rdM (idxs f r) d).2.1, x.length = 64) ∧ Row wr gs 89 (bv ((rdM (idxs f r) d).2.1 ++ List.replicate (n - r) nought).flatten) ∧ Off (fun k => F k ∨ k = gs) w1 wr)) (fun i _ => n - (intOf i).toNat)
  case atStart => exact ⟨0, Nat.zero_le _, rfl, hd1, rfl, rfl, (fun x hx => by cases hx), rs, Off.refl _ _⟩
  case round =>
    obtain ⟨r, hrn, rfl, HI⟩ := hrel
    clear hd1 rs hgF hbs hgs hs1
    by_cases hlt : r < n
    · have h1 : (r : Int) < (n : Int) := by omega
      have hfi : ((f + r : Nat) : Int) = (f : Int) + (r : Int) := by omega
      have HRD := Lib.hid (read_keep dg (rdM (idxs f r) d).1 F ((f + r : Nat) : Int) wr HI.out.1)
      rw [hfi] at HRD
      have hsn := rdM_snoc (idxs f r) ((f + r : Nat) : Int) d HI.out.2.1
      rw [← idxs_succ, hfi] at hsn
      obtain ⟨d', hd'⟩ : ∃ d', (rdM (idxs f r) d).1 = d' := ⟨_, rfl⟩
      rw [hd'] at HRD hsn
      have hx64 := readM_blk d' ((f : Int) + r) (hd' ▸ Disk.good HI.out.1)
      obtain ⟨x, hx⟩ : ∃ x, (d'.readM ((f : Int) + r)).2.1 = x := ⟨_, rfl⟩
      obtain ⟨er, her⟩ : ∃ er, (d'.readM ((f : Int) + r)).2.2 = er := ⟨_, rfl⟩
      obtain ⟨d2, hd2⟩ : ∃ d2, (d'.readM ((f : Int) + r)).1 = d2 := ⟨_, rfl⟩
      rw [hx, her, hd2] at hsn HRD
      rw [hx] at hx64
      have HSN := Lib.hid hsn
      have HX := Lib.hid hx64
      clear hsn hx64 hx her hd2 hd' hfi
      go_wp2_with fail
      refine (HRD.out).mono ?_
      rintro e w2 ⟨rfl, hdk, hoff⟩
      have HDK := Lib.hid hdk
      have HOF := Lib.hid hoff
      have RG2 : Hid (Row w2 gs 89 (bv ((rdM (idxs f r) d).2.1 ++ List.replicate (n - r) nought).flatten)) := Lib.hid ((hoff.block gs HI.out.2.2.2.2.1.lt HGF.out).trans HI.out.2.2.2.2.1)
      clear hdk hoff HRD
      have HIX : Hid ((Try.prog.info? 89).map (·.size) = some (bv x).length) := (show _ = _ by rw [bv_length, HX.out]; exact size39)
      have HLX : Hid ((bv x).length = (bv nought).length) := (show _ = _ by rw [bv_length, bv_length, HX.out]; rfl)
      go_wp2_with (first
        | (with_reducible refine wpList_store_whole (op := ⟨none, _, _, _, _, _⟩) ?_ 89 (.tmp 10) (.tmp 25) ?_ w2.heap.size (bv x) ?_ ?_ 89 (bv nought) ?hrow HLX.out bv_one HIX.out ?_))
      case hrow => exact Row.new w2 _ (bv nought)
      all_goals try (first | rfl | (simp; done))
      intro w3 hr3 hg3
      have hb3 : Below w2.heap.size w2 w3 := ((Below.refl _ _).alloc (Nat.le_refl _) _).grown hg3 (by simp) (fun k hk => by cases hk; exact Nat.le_refl _)
      have HR3 := Lib.hid hr3
      have HDK3 := Lib.hid (HDK.out.below hb3)
      have RG3 := Lib.hid (RG2.out.below hb3 RG2.out.lt)
      have hne3 : w2.heap.size ≠ gs := fun e => by have := RG2.out.lt; omega
      have HN3 := Lib.hid hne3
      have HO3 : Hid (Off (fun k => F k ∨ k = gs) w1 w3) := Lib.hid ⟨hb3.os.trans (HOF.out.os.trans HI.out.2.2.2.2.2.os), hb3.tape.trans (HOF.out.tape.trans HI.out.2.2.2.2.2.tape), hb3.output.trans (HOF.out.output.trans HI.out.2.2.2.2.2.output), Nat.le_trans HI.out.2.2.2.2.2.size (Nat.le_trans HOF.out.size hb3.size), fun k hk hn => (hb3.block k (Nat.lt_of_lt_of_le hk (Nat.le_trans HI.out.2.2.2.2.2.size HOF.out.size))).trans ((HOF.out.block k (Nat.lt_of_lt_of_le hk HI.out.2.2.2.2.2.size) (fun h => hn (.inl h))).trans (HI.out.2.2.2.2.2.block k hk hn))⟩
      clear hr3 hg3 hb3 hne3
      by_cases h0 : er = 0
      · subst h0
        have hsn := HSN.out
        rw [if_neg (by simp)] at hsn
        have e1 : (rdM (idxs f (r + 1)) d).1 = d2 := by rw [hsn]
        have e2 : (rdM (idxs f (r + 1)) d).2.1 = (rdM (idxs f r) d).2.1 ++ [x] := by rw [hsn]
        have e3 : (rdM (idxs f (r + 1)) d).2.2 = 0 := by rw [hsn]
        have E1 := Lib.hid e1
        have E2 := Lib.hid e2
        have E3 := Lib.hid e3
        obtain ⟨L, hL⟩ : ∃ L, (rdM (idxs f r) d).2.1 = L := ⟨_, rfl⟩
        have hrep : List.replicate (n - r) nought = nought :: List.replicate (n - (r + 1)) nought := by
          rw [show n - r = (n - (r + 1)) + 1 by omega, List.replicate_succ]
        have RL : Hid (Row w3 gs 89 (bv (L ++ nought :: List.replicate (n - (r + 1)) nought).flatten)) := by rw [← hL, ← hrep]; exact RG3.out
        have HLL : Hid (L.length = r ∧ ∀ b ∈ L, b.length = 64) := Lib.hid ⟨by rw [← hL]; exact HI.out.2.2.1, by rw [← hL]; exact HI.out.2.2.2.1⟩
        rw [hL] at E2
        have HFI : Hid (r * 64 + (bv x).length ≤ (bv (L ++ nought :: List.replicate (n - (r + 1)) nought).flatten).length) := Lib.hid (by
          rw [bv_length, bv_length, HX.out, flat_len _ (fun b hb => by
            rcases List.mem_append.1 hb with hb | hb
            · exact HLL.out.2 b hb
            · rcases List.mem_cons.1 hb with rfl | hb
              · rfl
              · rw [List.eq_of_mem_replicate hb]; rfl)]
          simp only [List.length_append, List.length_cons, HLL.out.1]
          omega)
        obtain ⟨cs, hcs⟩ : ∃ cs, bv (L ++ nought :: List.replicate (n - (r + 1)) nought).flatten = cs := ⟨_, rfl⟩
        rw [hcs] at RL HFI
        have HCS := Lib.hid hcs
        clear hsn e1 e2 e3 hrep hL RG3 hcs
        go_wp2_with (first
          | (with_reducible refine wpList_load_row (op := ⟨some 32, _, _, _, _, _⟩) ?_ 89 (.tmp 10) ?_ w2.heap.size 0 ?_ (bv x) _ (Row.all HR3.out) Try.underlying89 ?_ HIX.out ?_)
          | (with_reducible refine wpList_store_in (op := ⟨none, _, _, _, _, _⟩) ?_ 89 (.tmp 33) (.tmp 32) ?_ gs (r * 64) (bv x) ?_ ?_ 89 cs RL.out HFI.out bv_one HIX.out ?_))
        all_goals try (first | rfl | (simp; done))
        intro w4 hr4 hg4
        have hsp := splice_flat L (List.replicate (n - (r + 1)) nought) x nought HLL.out.2 HX.out rfl
        rw [HCS.out, HLL.out.1] at hsp
        rw [hsp] at hr4
        clear hsp
        have HREL : Hid (Disk w4 F dg (rdM (idxs f (r + 1)) d).1 ∧ (rdM (idxs f (r + 1)) d).2.2 = 0 ∧ (rdM (idxs f (r + 1)) d).2.1.length = r + 1 ∧ (∀ x ∈ (rdM (idxs f (r + 1)) d).2.1, x.length = 64) ∧ Row w4 gs 89 (bv ((rdM (idxs f (r + 1)) d).2.1 ++ List.replicate (n - (r + 1)) nought).flatten) ∧ Off (fun k => F k ∨ k = gs) w1 w4) := by
          rw [E1.out, E2.out]
          refine ⟨HDK3.out.off (F' := fun k => k = gs) (fun k hk e => HGF.out (e ▸ hk)) (Off.of_grown hg4 (fun k e => (Option.some.inj e).symm)), E3.out, by rw [List.length_append, HLL.out.1]; rfl, fun b hb => ?_, by rw [List.append_assoc]; exact hr4, HO3.out.grown hg4 (fun k e => .inl (.inr (Option.some.inj e).symm))⟩
          rcases List.mem_append.1 hb with hb | hb
          · exact HLL.out.2 b hb
          · rw [List.mem_singleton.1 hb]; exact HX.out
        clear hr4 hg4
        go_wp2
        exact ⟨⟨r + 1, by omega, by go_num, HREL⟩, by simp [intOf]; omega⟩
      · have hsn := HSN.out
        rw [if_pos h0] at hsn
        have hpre := rdM_pre (idxs f (r + 1)) ((List.range (n - (r + 1))).map fun (i : Nat) => ((f + (r + 1 + i) : Nat) : Int)) d (by rw [hsn]; exact h0)
        have hidx : idxs f (r + 1) ++ ((List.range (n - (r + 1))).map fun (i : Nat) => ((f + (r + 1 + i) : Nat) : Int)) = idxs f n := by
          rw [idxs_split, show r + 1 + (n - (r + 1)) = n by omega]
        rw [hidx, hsn] at hpre
        have HP1 := Lib.hid hpre.1
        have HP2 := Lib.hid hpre.2
        obtain ⟨Fm, hdm, hFm⟩ := dk_min HDK3.out
        have HDM := Lib.hid hdm
        have HFM := Lib.hid hFm
        clear hsn hpre hidx hdm hFm
        go_wp2
        exact bodyPost_ret (v := .tuple #[.slice none 0 0, .int .i64 er]) (by simp [results, Try.results61, go_sem]) rfl ⟨_, Fm, by rw [HP2.out], by rw [HP1.out]; exact HDM.out, fun k hk => .inl (HFM.out k hk), ⟨HO3.out.os.trans HBS.out.os, HO3.out.tape.trans HBS.out.tape, HO3.out.output.trans HBS.out.output, Nat.le_trans HBS.out.size HO3.out.size, fun k hk hn => (HO3.out.block k (by have := HS1.out; omega) (fun h => h.elim hn (fun e => by have := HGS.out; omega))).trans (HBS.out.block k hk)⟩, fun h => absurd (HP2.out.symm.trans h) h0⟩
    · have h1 : ¬ (r : Int) < (n : Int) := by omega
      obtain rfl : r = n := by omega
      obtain ⟨q1, q2, q3, q4, q5, q6⟩ := HI.out
      rw [Nat.sub_self, List.replicate_zero, List.append_nil] at q5
      obtain ⟨Fm, hdm, hFm⟩ := dk_min q1
      have HDM := Lib.hid hdm
      have HFM := Lib.hid hFm
      have Q2 := Lib.hid q2
      have Q3 := Lib.hid q3
      have Q4 := Lib.hid q4
      have Q5 := Lib.hid q5
      have HO3 := Lib.hid q6
      clear q1 q2 q3 q4 q5 q6 hdm hFm
      go_wp2
      exact bodyPost_ret (v := .tuple #[.slice (some ⟨gs, 0, none⟩) r r, .int .i64 0]) (by simp [results, Try.results61, go_sem]) rfl ⟨_, Fm, by rw [Q2.out], HDM.out, fun k hk => .inl (HFM.out k hk), ⟨HO3.out.os.trans HBS.out.os, HO3.out.tape.trans HBS.out.tape, HO3.out.output.trans HBS.out.output, Nat.le_trans HBS.out.size HO3.out.size, fun k hk hn => (HO3.out.block k (by have := HS1.out; omega) (fun h => h.elim hn (fun e => by have := HGS.out; omega))).trans (HBS.out.block k hk)⟩, fun _ => ⟨gs, rfl, Nat.le_of_eq HGS.out, fun h => HGF.out (HFM.out gs h), Q5.out, Q3.out, Q4.out⟩⟩
end Go.Proofs.Yteemdjamgbbjhaa.Wl
