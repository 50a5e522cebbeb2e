/-
  Words for the developers' disk, and the contracts of its small calls.
-/
import Derived.Test.YtbfpadilcfelbaaDsk2
import Derived.Deep.AppendLies
namespace Go.Proofs.Ytbfpadilcfelbaa.Dsk
open Go.RowKit Go.Proofs.Ytbfpadilcfelbaa.Wd

/-- a disk as numbers and lists -/
structure DM where
  sec : List (List UInt8)
  pend : List (Int × List UInt8 × List UInt8)
  dead : Bool
  ps : Bool
  pl : Int
  fs : Bool
  fl : Int
  ops : Int
/-- the cells of a pending write -/
def pcs (p : Int × List UInt8 × List UInt8) : List Value := .int .i64 p.1 :: (bv p.2.1 ++ bv p.2.2)
structure Good (d : DM) : Prop where
  pos : 0 < d.sec.length
  most : d.sec.length ≤ 2048
  sec : ∀ b ∈ d.sec, b.length = 64
  pend : ∀ p ∈ d.pend, 0 ≤ p.1 ∧ p.1 < (d.sec.length : Int) ∧ p.2.1.length = 64 ∧ p.2.2.length = 64
  left : 0 ≤ d.pl ∧ d.pl < 9223372036854775808 ∧ 0 ≤ d.fl ∧ d.fl < 9223372036854775808
/-- a disk's own cells -/
def dcs (gs : Nat) (A : Option Addr) (c : Nat) (d : DM) : List Value :=
  [.slice (some ⟨gs, 0, none⟩) d.sec.length d.sec.length, .slice A d.pend.length c, .bool d.dead, .bool d.ps, .int .i64 d.pl, .bool d.fs, .int .i64 d.fl, .int .i64 d.ops]
/-- block g is a disk's, sectors and writes beside it, all of it in F -/
structure DskAt (w : World) (F : Nat → Prop) (g gs : Nat) (A : Option Addr) (c : Nat) (d : DM) : Prop where
  fg : F g
  fs : F gs
  ne : g ≠ gs
  own : ∀ k, (Value.slice A d.pend.length c).ownBlock = some k → F k ∧ k ≠ g ∧ k ≠ gs
  row : Row w g 64 (dcs gs A c d)
  secs : Row w gs 39 (bv d.sec.flatten)
  pend : w.ownsRow 0 77 129 (.slice A d.pend.length c) d.pend.length (d.pend.flatMap pcs)
  good : Good d
def Dsk (w : World) (F : Nat → Prop) (g : Nat) (d : DM) : Prop := ∃ gs A c, DskAt w F g gs A c d

/-- outside of F nothing has turned -/
structure Off (F : Nat → Prop) (w w' : World) : Prop where
  os : w'.os = w.os
  tape : w'.tape = w.tape
  output : w'.output = w.output
  size : w.heap.size ≤ w'.heap.size
  block : ∀ k, k < w.heap.size → ¬ F k → w'.heap[k]? = w.heap[k]?
/-- F' is F and blocks made between -/
def Ext (F F' : Nat → Prop) (w w' : World) : Prop := ∀ k, F' k → F k ∨ (w.heap.size ≤ k ∧ k < w'.heap.size)
section
variable {F F' F'' : Nat → Prop} {w w' w'' : World}
theorem Off.refl (F : Nat → Prop) (w : World) : Off F w w := ⟨rfl, rfl, rfl, Nat.le_refl _, fun _ _ _ => rfl⟩
theorem Off.trans (h : Off F w w') (e : Ext F F' w w') (k : Off F' w' w'') : Off F w w'' :=
  ⟨k.os.trans h.os, k.tape.trans h.tape, k.output.trans h.output, Nat.le_trans h.size k.size, fun i hi hn => (k.block i (Nat.lt_of_lt_of_le hi h.size) (fun hf => by rcases e i hf with hf | hf; exact hn hf; omega)).trans (h.block i hi hn)⟩
theorem Ext.refl (F : Nat → Prop) (w w' : World) : Ext F F w w' := fun _ h => .inl h
theorem Ext.trans (h : Ext F F' w w') (h0 : w.heap.size ≤ w'.heap.size) (h1 : w'.heap.size ≤ w''.heap.size) (k : Ext F' F'' w' w'') : Ext F F'' w w'' := fun i hi => by
  rcases k i hi with hi | hi
  · rcases h i hi with hi | hi
    · exact .inl hi
    · exact .inr ⟨hi.1, by omega⟩
  · exact .inr ⟨by omega, hi.2⟩
theorem Off.of_below (h : Below w.heap.size w w') : Off F w w' := ⟨h.os, h.tape, h.output, h.size, fun k hk _ => h.block k hk⟩
theorem Off.of_grown {row : Option Nat} (h : w.grownBy w' row) (hr : ∀ k, row = some k → F k) : Off F w w' := ⟨h.os, h.tape, h.output, h.size, fun k hk hn => h.block k hk (fun e => hn (hr k e.symm))⟩
theorem Off.setCell (h : Off F w w') {p : Addr} (hp : F p.block ∨ w.heap.size ≤ p.block) (v : Value) : Off F w (w'.setCell p v) :=
  ⟨h.os, h.tape, h.output, by simpa [World.setCell] using h.size, fun k hk hn => (Below.heap_setCell w' p v k (fun e => by subst e; rcases hp with hp | hp; exact hn hp; omega)).trans (h.block k hk hn)⟩
theorem Off.alloc (h : Off F w w') (o : Obj) : Off F w (w'.alloc o) :=
  ⟨h.os, h.tape, h.output, Nat.le_trans h.size (by simp), fun k hk hn => (Below.heap_alloc w' o k (Nat.lt_of_lt_of_le hk h.size)).trans (h.block k hk hn)⟩
theorem Off.drewN (h : Off F w w') (n : Nat) : Off F w (w'.drewN n) := ⟨h.os, h.tape, h.output, h.size, h.block⟩
theorem Off.below {B : Nat} (h : Off F w w') (hF : ∀ k, F k → B ≤ k) (hB : B ≤ w.heap.size) : Below B w w' := ⟨h.os, h.tape, h.output, h.size, fun k hk => h.block k (by omega) (fun hf => by have := hF k hf; omega)⟩
theorem Off.grown {row : Option Nat} (h : Off F w w') (hg : w'.grownBy w'' row) (hr : ∀ k, row = some k → F k ∨ w.heap.size ≤ k) : Off F w w'' :=
  ⟨hg.os.trans h.os, hg.tape.trans h.tape, hg.output.trans h.output, Nat.le_trans h.size hg.size, fun k hk hn => (hg.block k (Nat.lt_of_lt_of_le hk h.size) (fun e => by rcases hr k e.symm with hf | hf; exact hn hf; omega)).trans (h.block k hk hn)⟩
theorem DskAt.off {g gs c : Nat} {A : Option Addr} {d : DM} (h : DskAt w F g gs A c d) (hn : ∀ k, F k → ¬ F' k) (ho : Off F' w w') : DskAt w' F g gs A c d := by
  refine ⟨h.fg, h.fs, h.ne, h.own, (ho.block g h.row.lt (hn g h.fg)).trans h.row, (ho.block gs h.secs.lt (hn gs h.fs)).trans h.secs, ?_, h.good⟩
  rcases h.pend with ⟨hl, hv | ⟨gp, cap, cur, hv, hb, hg, hr⟩⟩
  · exact ⟨hl, .inl hv⟩
  · have hk := h.own gp (by rw [hv]; rfl)
    exact ⟨hl, .inr ⟨gp, cap, cur, hv, hb, (ho.block gp (Array.getElem?_eq_some_iff.1 hg).1 (hn gp hk.1)).trans hg, hr⟩⟩
theorem Dsk.off {g : Nat} {d : DM} (h : Dsk w F g d) (hn : ∀ k, F k → ¬ F' k) (ho : Off F' w w') : Dsk w' F g d := by
  obtain ⟨gs, A, c, h⟩ := h
  exact ⟨gs, A, c, h.off hn ho⟩
theorem Dsk.more {g : Nat} {d : DM} (h : Dsk w F g d) (hF : ∀ k, F k → F' k) : Dsk w F' g d := by
  obtain ⟨gs, A, c, h⟩ := h
  exact ⟨gs, A, c, hF _ h.fg, hF _ h.fs, h.ne, fun k hk => ⟨hF _ (h.own k hk).1, (h.own k hk).2⟩, h.row, h.secs, h.pend, h.good⟩
/-- blocks made or turned outside of F leave a disk as it is -/
theorem DskAt.below {g gs c : Nat} {A : Option Addr} {d : DM} (h : DskAt w F g gs A c d) (hb : Below w.heap.size w w') : DskAt w' F g gs A c d := h.off (F' := fun _ => False) (fun _ _ hf => hf) (Off.of_below hb)
theorem Dsk.below {g : Nat} {d : DM} (h : Dsk w F g d) (hb : Below w.heap.size w w') : Dsk w' F g d := h.off (F' := fun _ => False) (fun _ _ hf => hf) (Off.of_below hb)
theorem DskAt.drewN {g gs c : Nat} {A : Option Addr} {d : DM} (h : DskAt w F g gs A c d) (n : Nat) : DskAt (w.drewN n) F g gs A c d := ⟨h.fg, h.fs, h.ne, h.own, h.row, h.secs, h.pend, h.good⟩
/-- the disk's own cells turn -/
theorem DskAt.turn {g gs c : Nat} {A : Option Addr} {d d' : DM} (h : DskAt w F g gs A c d) (hr : Row w' g 64 (dcs gs A c d')) (he : d'.pend = d.pend) (hs : d'.sec = d.sec) (hgd : Good d') (hg : ∀ k, k < w.heap.size → k ≠ g → w'.heap[k]? = w.heap[k]?) : DskAt w' F g gs A c d' := by
  refine ⟨h.fg, h.fs, h.ne, by rw [he]; exact h.own, hr, by rw [hs]; exact (hg gs h.secs.lt h.ne.symm).trans h.secs, ?_, hgd⟩
  rw [he]
  rcases h.pend with ⟨hl, hv | ⟨gp, cap, cur, hv, hb, hgp, hr⟩⟩
  · exact ⟨hl, .inl hv⟩
  · have hk := h.own gp (by rw [hv]; rfl)
    exact ⟨hl, .inr ⟨gp, cap, cur, hv, hb, (hg gp (Array.getElem?_eq_some_iff.1 hgp).1 hk.2.1).trans hgp, hr⟩⟩
end

theorem off_nil (w : World) : Calls Try.prog 43 #[.pointer none] w fun e w' => e = .returned (.int .i64 1) ∧ w' = w := by
  go_enter Try.func43, Try.ntmps43
  go_wp2
  go_ret
  exact ⟨rfl, rfl⟩
theorem off_any (g : Nat) (b : Bool) (w : World) (h : w.cell? ⟨g, 2, none⟩ = some (.bool b)) : Calls Try.prog 43 #[.pointer (some ⟨g, 0, none⟩)] w fun e w' => e = .returned (.int .i64 (if b then 9 else 0)) ∧ w' = w := by
  cases b with
  | true =>
    go_enter Try.func43, Try.ntmps43
    go_wp2
    go_ret
    exact ⟨rfl, rfl⟩
  | false =>
    go_enter Try.func43, Try.ntmps43
    go_wp2
    go_ret
    exact ⟨rfl, rfl⟩
theorem over_off (g o : Nat) (w : World) (h0 : w.cell? ⟨g, o, none⟩ = some (.bool false)) : Calls Try.prog 48 #[.pointer (some ⟨g, o, none⟩)] w fun e w' => e = .returned (.bool false) ∧ w' = w := by
  go_enter Try.func48, Try.ntmps48
  go_wp2
  go_ret
  exact ⟨rfl, rfl⟩
theorem over_zero (g o : Nat) (w : World) (h0 : w.cell? ⟨g, o, none⟩ = some (.bool true)) (h1 : w.cell? ⟨g, o + 1, none⟩ = some (.int .i64 0)) : Calls Try.prog 48 #[.pointer (some ⟨g, o, none⟩)] w fun e w' => e = .returned (.bool true) ∧ w' = w := by
  go_enter Try.func48, Try.ntmps48
  go_wp2
  go_ret
  exact ⟨rfl, rfl⟩
theorem over_on (g o : Nat) (l : Int) (w : World) (h0 : w.cell? ⟨g, o, none⟩ = some (.bool true)) (h1 : w.cell? ⟨g, o + 1, none⟩ = some (.int .i64 l)) (hf : w.frozen? ⟨g, o + 1, none⟩ = false) (hl : 0 < l) (hm : l < 9223372036854775808) : Calls Try.prog 48 #[.pointer (some ⟨g, o, none⟩)] w fun e w' => e = .returned (.bool false) ∧ w' = w.setCell ⟨g, o + 1, none⟩ (.int .i64 (l - 1)) := by
  have h3 : ¬ l = 0 := by omega
  have h4 : wrap64 (l - 1) = l - 1 := by unfold wrap64; omega
  go_enter Try.func48, Try.ntmps48
  go_wp2
  go_ret
  exact ⟨rfl, rfl⟩
theorem len_nil (w : World) : Calls Try.prog 13 #[.pointer none] w fun e w' => e = .returned (.int .i64 0) ∧ w' = w := by
  go_enter Try.func13, Try.ntmps13
  go_wp2
  go_ret
  exact ⟨rfl, rfl⟩
theorem len_any (g : Nat) (d : DM) (F : Nat → Prop) (w : World) (h : Dsk w F g d) : Calls Try.prog 13 #[.pointer (some ⟨g, 0, none⟩)] w fun e w' => e = .returned (.int .i64 d.sec.length) ∧ w' = w := by
  obtain ⟨gs, A, c, h⟩ := h
  have c0 : w.cell? ⟨g, 0, none⟩ = some (.slice (some ⟨gs, 0, none⟩) d.sec.length d.sec.length) := h.row.cell 0
  go_enter Try.func13, Try.ntmps13
  go_wp2
  go_ret
  exact ⟨rfl, rfl⟩
theorem dead_nil (w : World) : Calls Try.prog 23 #[.pointer none] w fun e w' => e = .returned (.bool false) ∧ w' = w := by
  go_enter Try.func23, Try.ntmps23
  go_wp2
  go_ret
  exact ⟨rfl, rfl⟩
theorem dead_any (g : Nat) (d : DM) (F : Nat → Prop) (w : World) (h : Dsk w F g d) : Calls Try.prog 23 #[.pointer (some ⟨g, 0, none⟩)] w fun e w' => e = .returned (.bool d.dead) ∧ w' = w := by
  obtain ⟨gs, A, c, h⟩ := h
  have c2 : w.cell? ⟨g, 2, none⟩ = some (.bool d.dead) := h.row.cell 2
  go_enter Try.func23, Try.ntmps23
  go_wp2
  go_ret
  exact ⟨rfl, rfl⟩
theorem ops_nil (w : World) : Calls Try.prog 35 #[.pointer none] w fun e w' => e = .returned (.int .i64 0) ∧ w' = w := by
  go_enter Try.func35, Try.ntmps35
  go_wp2
  go_ret
  exact ⟨rfl, rfl⟩
theorem ops_any (g : Nat) (d : DM) (F : Nat → Prop) (w : World) (h : Dsk w F g d) : Calls Try.prog 35 #[.pointer (some ⟨g, 0, none⟩)] w fun e w' => e = .returned (.int .i64 d.ops) ∧ w' = w := by
  obtain ⟨gs, A, c, h⟩ := h
  have c7 : w.cell? ⟨g, 7, none⟩ = some (.int .i64 d.ops) := h.row.cell 7
  go_enter Try.func35, Try.ntmps35
  go_wp2
  go_ret
  exact ⟨rfl, rfl⟩
theorem from_any (n : Int) (w : World) : Calls Try.prog 44 #[.int .i64 n] w fun e w' => e = .returned (if n < 0 then .agg #[.bool false, .int .i64 0] else .agg #[.bool true, .int .i64 n]) ∧ Below w.heap.size w w' := by
  by_cases hn : n < 0
  · rw [if_pos hn]
    go_enter Try.func44, Try.ntmps44
    go_wp2
    exact bodyPost_ret (v := .agg #[.bool false, .int .i64 0]) (by simp [results, Try.results44, go_sem]) rfl ⟨rfl, (Below.refl _ _).alloc (Nat.le_refl _) _⟩
  · rw [if_neg hn]
    go_enter Try.func44, Try.ntmps44
    go_wp2
    exact bodyPost_ret (v := .agg #[.bool true, .int .i64 n]) (by simp [results, Try.results44, go_sem]) rfl ⟨rfl, (Below.refl _ _).alloc (Nat.le_refl _) _⟩
end Go.Proofs.Ytbfpadilcfelbaa.Dsk
