/-
  Disks side by side and blocks apart from them: the calls that DiskSafe makes.
-/
import Derived.Test.YtbfpadilcfelbaaDevD2
import Derived.Test.YtbfpadilcfelbaaDevS0
namespace Go.Proofs.Ytbfpadilcfelbaa.Dsk
open Go.RowKit Go.Proofs.Ytbfpadilcfelbaa.Wd

/-- apart from the disks: blocks of the list, and what was there at first -/
def Xs (B : Nat) (xs : List Nat) (k : Nat) : Prop := k ∈ xs ∨ k < B
structure St (w0 w : World) (xs : List Nat) (L : List (Nat × DM)) : Prop where
  many : Many w w0.heap.size (Xs w0.heap.size xs) L
  lt : ∀ x ∈ xs, x < w.heap.size
  bel : Below w0.heap.size w0 w
def Keep (w0 : World) (xs : List Nat) (w w' : World) : Prop := w.heap.size ≤ w'.heap.size ∧ ∀ x, Xs w0.heap.size xs x → w'.heap[x]? = w.heap[x]?
section
variable {w0 w w' w'' : World} {xs : List Nat} {L : List (Nat × DM)}
theorem St.xlt (h : St w0 w xs L) : ∀ k, Xs w0.heap.size xs k → k < w.heap.size := fun k hk => by
  rcases hk with hk | hk
  · exact h.lt k hk
  · have := h.bel.size; omega
theorem Keep.refl (w0 : World) (xs : List Nat) (w : World) : Keep w0 xs w w := ⟨Nat.le_refl _, fun _ _ => rfl⟩
theorem Keep.trans (h : Keep w0 xs w w') (k : Keep w0 xs w' w'') : Keep w0 xs w w'' := ⟨Nat.le_trans h.1 k.1, fun x hx => (k.2 x hx).trans (h.2 x hx)⟩
theorem Keep.less {ys : List Nat} (h : Keep w0 xs w w') (hy : ∀ y ∈ ys, y ∈ xs) : Keep w0 ys w w' := ⟨h.1, fun x hx => h.2 x (hx.imp (hy x) id)⟩
theorem Keep.of_below (hb : Below w.heap.size w w') (hx : ∀ k, Xs w0.heap.size xs k → k < w.heap.size) : Keep w0 xs w w' := ⟨hb.size, fun x hxx => hb.block x (hx x hxx)⟩
theorem Row.kept {g : Nat} {t : TypeId} {cs : List Value} (h : Row w g t cs) (hk : Keep w0 xs w w') (hx : g ∈ xs) : Row w' g t cs := (hk.2 g (.inl hx)).trans h
theorem range_kept {b o : Nat} {cs : List Value} (h : w.rangeAt b o cs) (he : w'.heap[b]? = w.heap[b]?) : w'.rangeAt b o cs := fun j v hj => (World.cell?_of_block (w := w) he).trans (h j v hj)
theorem Blks.kept {g : Nat} {ls : List (List UInt8)} (h : Blks w w.heap.size (some ⟨g, 0, none⟩) ls) (hk : Keep w0 xs w w') (hx : g ∈ xs) : Blks w' w'.heap.size (some ⟨g, 0, none⟩) ls := fun hp => by
  obtain ⟨b, o, e, hlt, hr⟩ := h hp
  cases e
  exact ⟨g, 0, rfl, Nat.lt_of_lt_of_le hlt hk.1, fun i hi => ⟨(hr i hi).1, range_kept (hr i hi).2 (hk.2 g (.inl hx))⟩⟩
theorem Vs.kept {A : Option Addr} {vs : List Value} (h : Vs w w.heap.size A vs) (hk : Keep w0 xs w w') (hx : ∀ b o s, A = some ⟨b, o, s⟩ → Xs w0.heap.size xs b) : Vs w' w'.heap.size A vs := fun hp => by
  obtain ⟨b, o, e, hlt, hr⟩ := h hp
  exact ⟨b, o, e, Nat.lt_of_lt_of_le hlt hk.1, range_kept hr (hk.2 b (hx b o none e))⟩
theorem Row.vs {g : Nat} {t : TypeId} {cs : List Value} (h : Row w g t cs) : Vs w w.heap.size (some ⟨g, 0, none⟩) cs := fun _ =>
  ⟨g, 0, rfl, h.lt, fun j v hj => by rw [Nat.zero_add, h.cell]; exact hj⟩
theorem St.start (w0 : World) (w : World) (hb : Below w0.heap.size w0 w) : St w0 w [] [] := ⟨Many.nil, (fun x hx => by cases hx), hb⟩
theorem St.below (h : St w0 w xs L) (hb : Below w.heap.size w w') : St w0 w' xs L :=
  ⟨h.many.below hb, fun x hx => Nat.lt_of_lt_of_le (h.lt x hx) hb.size, h.bel.trans (hb.mono h.bel.size)⟩
/-- blocks made behind are apart -/
theorem St.add (h : St w0 w xs L) (hb : Below w.heap.size w w') {x : Nat} (h1 : w.heap.size ≤ x) (h2 : x < w'.heap.size) : St w0 w' (x :: xs) L := by
  refine ⟨h.many.add hb (fun k hk => ?_), (fun y hy => ?_), h.bel.trans (hb.mono h.bel.size)⟩
  · rcases hk with hk | hk
    · rcases List.mem_cons.1 hk with rfl | hk
      · exact .inr h1
      · exact .inl (.inl hk)
    · exact .inl (.inr hk)
  · rcases List.mem_cons.1 hy with rfl | hy
    · exact h2
    · exact Nat.lt_of_lt_of_le (h.lt y hy) hb.size
theorem St.less {ys : List Nat} (h : St w0 w xs L) (hy : ∀ y ∈ ys, y ∈ xs) : St w0 w ys L :=
  ⟨h.many.less (fun k hk => hk.imp (hy k) id), fun y hyy => h.lt y (hy y hyy), h.bel⟩
/-- a block apart is turned -/
theorem St.store (h : St w0 w xs L) {x o : Nat} (hx : x ∈ xs) (hB : w0.heap.size ≤ x) (v : Value) : St w0 (w.setCell ⟨x, o, none⟩ v) xs L :=
  ⟨h.many.off ((Off.refl _ w).setCell (.inl (.inl hx)) v), fun y hy => by simpa [World.setCell] using h.lt y hy, h.bel.setCell hB v⟩
/-- the last disk is let go -/
theorem St.drop {p : Nat × DM} (h : St w0 w xs (L ++ [p])) : St w0 w xs L := by
  refine ⟨?_, h.lt, h.bel⟩
  obtain ⟨Fs, h1, h2, h3⟩ := h.many
  have hl : ∀ i, i < L.length → i < (L ++ [p]).length := fun i hi => by simp; omega
  exact ⟨Fs, fun i q hq => h1 i q (by rw [List.getElem?_append_left (List.getElem?_eq_some_iff.1 hq).1]; exact hq), fun i j k hi hj => h2 i j k (hl i hi) (hl j hj), fun i k hi => h3 i k (hl i hi)⟩
theorem St.good {i g : Nat} {d : DM} (h : St w0 w xs L) (hi : L[i]? = some (g, d)) : Good d := by
  obtain ⟨Fs, h1, _, _⟩ := h.many
  exact (h1 i _ hi).good
theorem st_step {i g : Nat} {d : DM} {f : FuncId} {args : Array Value} {R : Ending → World → DM → Prop} (h : St w0 w xs L) (hi : L[i]? = some (g, d))
    (hc : ∀ F, Disk w F g d → (∀ k, Xs w0.heap.size xs k → ¬ F k) → Calls Try.prog f args w fun e w' => ∃ d', R e w' d' ∧ Goes F w g d' w') :
    Calls Try.prog f args w fun e w' => ∃ d', R e w' d' ∧ St w0 w' xs (L.set i (g, d')) ∧ Keep w0 xs w w' :=
  (h.many.step hi h.bel.size h.xlt hc).mono fun e w' ⟨d', hR, hm, hb, hk⟩ => ⟨d', hR, ⟨hm, fun x hx => by
    have hlt := h.lt x hx
    have he := hk x (.inl hx)
    have : (w'.heap[x]?).isSome := by rw [he, Array.getElem?_eq_getElem hlt]; rfl
    exact (Array.getElem?_eq_some_iff.1 (Option.eq_some_of_isSome this)).1, h.bel.trans hb⟩, ⟨hb.size, hk⟩⟩
theorem st_look {i g : Nat} {d : DM} {f : FuncId} {args : Array Value} {R : Ending → World → Prop} (h : St w0 w xs L) (hi : L[i]? = some (g, d)) (hc : ∀ F, Disk w F g d → Calls Try.prog f args w R) : Calls Try.prog f args w R := h.many.look hi hc
theorem st_crash {i g : Nat} {d : DM} (A' : Option Addr) (n' c' : Nat) (keep : List Bool) (h : St w0 w xs L) (hi : L[i]? = some (g, d)) (hp : d.pend.length ≤ 1000000) (hk : keep.length = n') (hv : Vs w w.heap.size A' (bools keep)) (hA : 0 < keep.length → ∀ b o s, A' = some ⟨b, o, s⟩ → Xs w0.heap.size xs b) :
    Calls Try.prog 20 #[.pointer (some ⟨g, 0, none⟩), .slice A' n' c'] w fun e w' => e = .returned (.int .i64 0) ∧ St w0 w' xs (L.set i (g, d.crashM keep)) ∧ Keep w0 xs w w' :=
  (st_step (R := fun e _ d' => e = .returned (.int .i64 0) ∧ d' = d.crashM keep) h hi (fun F hF hX => (crash_any0 g d F A' n' c' keep w hF hp hk hv (fun h0 b o s e => hX b (hA h0 b o s e))).mono fun e w' ⟨he, hg⟩ => ⟨_, ⟨he, rfl⟩, hg⟩)).mono
    fun e w' ⟨d', ⟨he, hd⟩, hs, hkp⟩ => ⟨he, hd ▸ hs, hkp⟩
theorem st_sync {i g : Nat} {d : DM} (h : St w0 w xs L) (hi : L[i]? = some (g, d)) :
    Calls Try.prog 21 #[.pointer (some ⟨g, 0, none⟩)] w fun e w' => e = .returned (.int .i64 d.syncM.2) ∧ St w0 w' xs (L.set i (g, d.syncM.1)) ∧ Keep w0 xs w w' :=
  (st_step (R := fun e _ d' => e = .returned (.int .i64 d.syncM.2) ∧ d' = d.syncM.1) h hi (fun F hF _ => (sync_any g d F w hF).mono fun e w' ⟨he, hg⟩ => ⟨_, ⟨he, rfl⟩, hg⟩)).mono
    fun e w' ⟨d', ⟨he, hd⟩, hs, hkp⟩ => ⟨he, hd ▸ hs, hkp⟩
theorem st_read {i g : Nat} {d : DM} (j : Int) (h : St w0 w xs L) (hi : L[i]? = some (g, d)) :
    Calls Try.prog 14 #[.pointer (some ⟨g, 0, none⟩), .int .i64 j] w fun e w' => e = .returned (.tuple #[blk (d.readM j).2.1, .int .i64 (d.readM j).2.2]) ∧ St w0 w' xs (L.set i (g, (d.readM j).1)) ∧ Keep w0 xs w w' :=
  (st_step (R := fun e _ d' => e = .returned (.tuple #[blk (d.readM j).2.1, .int .i64 (d.readM j).2.2]) ∧ d' = (d.readM j).1) h hi (fun F hF _ => (read_any g d F j w hF).mono fun e w' ⟨he, hg⟩ => ⟨_, ⟨he, rfl⟩, hg⟩)).mono
    fun e w' ⟨d', ⟨he, hd⟩, hs, hkp⟩ => ⟨he, hd ▸ hs, hkp⟩
theorem st_copy {i g : Nat} {d : DM} (h : St w0 w xs L) (hi : L[i]? = some (g, d)) (hp : d.pend.length ≤ 1000000) :
    Calls Try.prog 16 #[.pointer (some ⟨g, 0, none⟩)] w fun e w' => ∃ g', e = .returned (.pointer (some ⟨g', 0, none⟩)) ∧ St w0 w' xs (L ++ [(g', d)]) ∧ Keep w0 xs w w' :=
  (st_look h hi (fun F hF => copy_any g d F w hF hp)).mono fun e w' ⟨he, hd, hb⟩ =>
    ⟨_, he, ⟨h.many.more hb h.bel.size h.xlt hd (fun k hk => hk.1), fun x hx => Nat.lt_of_lt_of_le (h.lt x hx) hb.size, h.bel.trans (hb.mono h.bel.size)⟩, Keep.of_below hb h.xlt⟩
theorem st_pending {i g : Nat} {d : DM} (h : St w0 w xs L) (hi : L[i]? = some (g, d)) (hp : d.pend.length ≤ 1000000) :
    Calls Try.prog 19 #[.pointer (some ⟨g, 0, none⟩)] w fun e w' => ∃ x, e = .returned (.slice (some ⟨x, 0, none⟩) d.pend.length d.pend.length) ∧ Row w' x 3 (pints d) ∧ St w0 w' (x :: xs) L ∧ Keep w0 xs w w' :=
  (st_look h hi (fun F hF => pending_any g d F w hF hp)).mono fun e w' ⟨he, hr, hb⟩ => ⟨_, he, hr, h.add hb (Nat.le_refl _) hr.lt, Keep.of_below hb h.xlt⟩
theorem st_held {i g : Nat} {d : DM} (h : St w0 w xs L) (hi : L[i]? = some (g, d)) :
    Calls Try.prog 18 #[.pointer (some ⟨g, 0, none⟩)] w fun e w' => ∃ x c, e = .returned (.slice (some ⟨x, 0, none⟩) d.sec.length c) ∧ Blks w' w'.heap.size (some ⟨x, 0, none⟩) d.heldM.2 ∧ St w0 w' (x :: xs) (L.set i (g, d.heldM.1)) ∧ Keep w0 xs w w' := by
  have hgd := h.good hi
  obtain ⟨Fs, h1, h2, h3⟩ := h.many
  have hlt := (List.getElem?_eq_some_iff.1 hi).1
  refine (held_any g d (Fs i) w (h1 i _ hi)).mono ?_
  rintro e w' ⟨v, rfl, hown, hD, hoff⟩
  obtain ⟨A, c, hv, hnc, hcm, hA, hbl, hbase⟩ := own_blks hown held_len (reads_blk hgd d.sec.length)
  obtain ⟨x, hx⟩ : ∃ x, v = .slice (some ⟨x, 0, none⟩) d.sec.length c := by
    rcases hown.2 with ⟨_, h0⟩ | ⟨x, cap, cur, hv2, _⟩
    · have := hgd.pos; omega
    · rw [hv2] at hv
      simp only [Value.slice.injEq] at hv
      exact ⟨x, by rw [hv2, hv.2.2]⟩
  rw [hx] at hv
  simp only [Value.slice.injEq, true_and] at hv
  obtain rfl := hv.1.symm
  have hxb : w.heap.size ≤ x := hbase x 0 none rfl
  have hxl : x < w'.heap.size := by
    obtain ⟨b, o, e, hlt, _⟩ := hbl (by rw [held_len]; exact hgd.pos)
    cases e; exact hlt
  have hk : Keep w0 xs w w' := ⟨hoff.size, fun y hy => hoff.block y (h.xlt y hy) (fun hf => (h3 i y hlt hf).2 hy)⟩
  refine ⟨x, c, by rw [hx], hbl, ⟨⟨Fs, fun j p hp => ?_, fun j1 j2 k hj1 hj2 => h2 j1 j2 k (by simpa using hj1) (by simpa using hj2), fun j k hj hf => ⟨(h3 j k (by simpa using hj) hf).1, fun hxx => ?_⟩⟩, fun y hy => ?_, h.bel.trans (hoff.below (fun k hk => (h3 i k hlt hk).1) h.bel.size)⟩, hk⟩
  · by_cases hj : j = i
    · subst hj
      rw [List.getElem?_set_self hlt] at hp
      obtain rfl := Option.some.inj hp
      exact hD
    · rw [List.getElem?_set_ne (fun e => hj e.symm)] at hp
      exact (h1 j p hp).off (fun k hk hf => h2 j i k (List.getElem?_eq_some_iff.1 hp).1 hlt hj hk hf) hoff
  · have hj' : j < L.length := by simpa using hj
    rcases hxx with hxx | hxx
    · rcases List.mem_cons.1 hxx with rfl | hxx
      · have := (h1 j _ (List.getElem?_eq_getElem hj')).2 _ hf
        omega
      · exact (h3 j k hj' hf).2 (.inl hxx)
    · exact (h3 j k hj' hf).2 (.inr hxx)
  · rcases List.mem_cons.1 hy with rfl | hy
    · exact hxl
    · exact Nat.lt_of_lt_of_le (h.lt y hy) hoff.size
theorem st_same {x1 x2 n1 n2 c1 c2 : Nat} {L1 L2 : List (List UInt8)} (h : St w0 w xs L) (h1 : L1.length = n1) (h2 : L2.length = n2) (b1 : Blks w w.heap.size (some ⟨x1, 0, none⟩) L1) (b2 : Blks w w.heap.size (some ⟨x2, 0, none⟩) L2) (hn1 : n1 ≤ 1000000) (hn2 : n2 ≤ 1000000) :
    Calls Try.prog 22 #[.slice (some ⟨x1, 0, none⟩) n1 c1, .slice (some ⟨x2, 0, none⟩) n2 c2] w fun e w' => e = .returned (.bool (decide (L1 = L2))) ∧ St w0 w' xs L ∧ Keep w0 xs w w' :=
  (same_any _ _ n1 n2 c1 c2 L1 L2 w h1 h2 b1 b2 hn1 hn2).mono fun e w' ⟨he, hb⟩ => ⟨he, h.below hb, Keep.of_below hb h.xlt⟩
/-- a block is made -/
theorem St.alloc (h : St w0 w xs L) (o : Obj) : St w0 (w.alloc o) (w.heap.size :: xs) L := h.add ((Below.refl _ _).alloc (Nat.le_refl _) o) (Nat.le_refl _) (by simp)
theorem Keep.alloc (h : St w0 w xs L) (o : Obj) : Keep w0 xs w (w.alloc o) := Keep.of_below ((Below.refl _ _).alloc (Nat.le_refl _) o) h.xlt
theorem Keep.far {x o : Nat} {v : Value} (hx : x ∉ xs) (hB : w0.heap.size ≤ x) : Keep w0 xs w (w.setCell ⟨x, o, none⟩ v) :=
  ⟨by simp [World.setCell], fun y hy => Below.heap_setCell w ⟨x, o, none⟩ v y (fun e => by
    have e2 : y = x := e
    subst e2
    rcases hy with hy | hy
    · exact hx hy
    · omega)⟩
end
end Go.Proofs.Ytbfpadilcfelbaa.Dsk
