/-
  The contracts of the disk's calls, whole.
-/
import Derived.Test.YtbfpadilcfelbaaDev4
namespace Go.Proofs.Ytbfpadilcfelbaa.Dsk
open Go.RowKit Go.Proofs.Ytbfpadilcfelbaa.Wd

/-- a disk all of whose blocks are there -/
def Disk (w : World) (F : Nat → Prop) (g : Nat) (d : DM) : Prop := Dsk w F g d ∧ ∀ k, F k → k < w.heap.size
/-- from a disk to the one behind it -/
def Goes (F : Nat → Prop) (w : World) (g : Nat) (d' : DM) (w' : World) : Prop := ∃ F', Disk w' F' g d' ∧ Ext F F' w w' ∧ Off F w w'
theorem Disk.off {w w' : World} {F F' : Nat → Prop} {g : Nat} {d : DM} (h : Disk w F g d) (hn : ∀ k, F k → ¬ F' k) (ho : Off F' w w') : Disk w' F g d := ⟨h.1.off hn ho, fun k hk => Nat.lt_of_lt_of_le (h.2 k hk) ho.size⟩
theorem Disk.below {w w' : World} {F : Nat → Prop} {g : Nat} {d : DM} (h : Disk w F g d) (hb : Below w.heap.size w w') : Disk w' F g d := ⟨h.1.below hb, fun k hk => Nat.lt_of_lt_of_le (h.2 k hk) hb.size⟩
theorem Goes.mk {w w' : World} {F F' : Nat → Prop} {g gs c : Nat} {A : Option Addr} {d d' : DM} (h : Disk w F g d) (hd : DskAt w' F' g gs A c d') (hx : Ext F F' w w') (ho : Off F w w') : Goes F w g d' w' :=
  ⟨F', ⟨⟨gs, A, c, hd⟩, fun k hk => by
    rcases hx k hk with h1 | h1
    · exact Nat.lt_of_lt_of_le (h.2 k h1) ho.size
    · exact h1.2⟩, hx, ho⟩
theorem off_mono {w w' : World} {F F' : Nat → Prop} (h : Off F w w') (hF : ∀ k, k < w.heap.size → F k → F' k) : Off F' w w' := ⟨h.os, h.tape, h.output, h.size, fun k hk hn => h.block k hk (fun hf => hn (hF k hk hf))⟩
/-- what was made ahead is new -/
theorem Off.behind {w w1 w' : World} {F F' : Nat → Prop} (hb : Below w.heap.size w w1) (h : Off F' w1 w') (hF : ∀ k, F' k → F k ∨ w.heap.size ≤ k) : Off F w w' :=
  ⟨h.os.trans hb.os, h.tape.trans hb.tape, h.output.trans hb.output, Nat.le_trans hb.size h.size, fun k hk hn => (h.block k (Nat.lt_of_lt_of_le hk hb.size) (fun hf => by
    rcases hF k hf with h1 | h1
    · exact hn h1
    · omega)).trans (hb.block k hk)⟩
theorem zeroBlk (u : World) : (zeroValue 39).run Try.prog u = .ok (.agg (bv nought).toArray) u := by kernel_rfl

theorem results_cell_tmp {P : Program} {fn : Func} {p q : Tmp} {ty : TypeId} (h : fn.results = #[.cell p ty, .tmp q]) (tmps : Array Value) (w : World) (a : Addr) (v u : Value) (hp : tmps.getD p undef = .pointer (some a)) (hl : (loadVar ty a).run P w = .ok v w) (hq : tmps.getD q undef = u) :
    (results fn tmps).run P w = .ok (.tuple #[v, u]) w := by
  simp only [results, h]
  simp only [Array.getD_eq_getD_getElem?] at *
  simp [Sem.run_bind, Result.andThen, hq]
  rw [hp, show (asAddr (.pointer (some a))).run P w = .ok a w from rfl]
  simp only []
  rw [hl]
set_option maxHeartbeats 1000000 in
theorem read_keep (g : Nat) (d : DM) (F : Nat → Prop) (i : Int) (w : World) (h : Disk w F g d) :
    Calls Try.prog 14 #[.pointer (some ⟨g, 0, none⟩), .int .i64 i] w fun e w' => e = .returned (.tuple #[blk (d.readM i).2.1, .int .i64 (d.readM i).2.2]) ∧ Disk w' F g (d.readM i).1 ∧ Off F w w' := by
  have hdisk := h
  obtain ⟨⟨gs, A, c, h⟩, hF⟩ := h
  have hF0 : ¬ F w.heap.size := fun hf => by have := hF _ hf; omega
  have hF1 : ¬ F (w.heap.size + 1) := fun hf => by have := hF _ hf; omega
  have hF2 : ¬ F (w.heap.size + 1 + 1) := fun hf => by have := hF _ hf; omega
  have hF3 : ¬ F (w.heap.size + 1 + 1 + 1) := fun hf => by have := hF _ hf; omega
  obtain ⟨w1, hw1⟩ : ∃ w1, w1 = w.alloc (.cells #[.pointer (some ⟨g, 0, none⟩)] 24) := ⟨_, rfl⟩
  obtain ⟨w2, hw2⟩ : ∃ w2, w2 = w1.alloc (.cells #[.int .i64 i] 3) := ⟨_, rfl⟩
  obtain ⟨w3, hw3⟩ : ∃ w3, w3 = w2.alloc (.cells (bv nought).toArray 39) := ⟨_, rfl⟩
  obtain ⟨w4, hw4⟩ : ∃ w4, w4 = w3.alloc (.cells (bv nought).toArray 39) := ⟨_, rfl⟩
  have s1 : w1.heap.size = w.heap.size + 1 := by rw [hw1]; simp
  have s2 : w2.heap.size = w.heap.size + 1 + 1 := by rw [hw2]; simp [s1]
  have s3 : w3.heap.size = w.heap.size + 1 + 1 + 1 := by rw [hw3]; simp [s2]
  have s4 : w4.heap.size = w.heap.size + 1 + 1 + 1 + 1 := by rw [hw4]; simp [s3]
  have r1 : Row w4 w.heap.size 24 [.pointer (some ⟨g, 0, none⟩)] := by
    rw [hw4, hw3, hw2, hw1]
    exact (((Row.new w _ [.pointer (some ⟨g, 0, none⟩)]).alloc _).alloc _).alloc _
  have r2 : Row w4 (w.heap.size + 1) 3 [.int .i64 i] := by
    have := ((Row.new w1 3 [.int .i64 i]).alloc (.cells (bv nought).toArray 39)).alloc (.cells (bv nought).toArray 39)
    rw [s1] at this
    rw [hw4, hw3, hw2]; exact this
  have r3 : Row w4 (w.heap.size + 1 + 1) 39 (bv nought) := by
    have := (Row.new w2 39 (bv nought)).alloc (.cells (bv nought).toArray 39)
    rw [s2] at this
    rw [hw4, hw3]; exact this
  have r4 : Row w4 (w.heap.size + 1 + 1 + 1) 39 (bv nought) := by
    have := Row.new w3 39 (bv nought)
    rw [s3] at this
    rw [hw4]; exact this
  have hb4 : Below w.heap.size w w4 := by
    rw [hw4, hw3, hw2, hw1]
    exact ((((Below.refl _ _).alloc (Nat.le_refl _) _).alloc (by simp) _).alloc (by simp; omega) _).alloc (by simp; omega) _
  have h4 := h.below hb4
  have c1 : w4.cell? ⟨w.heap.size, 0, none⟩ = some (.pointer (some ⟨g, 0, none⟩)) := r1.cell 0
  have c2 : w4.cell? ⟨w.heap.size + 1, 0, none⟩ = some (.int .i64 i) := r2.cell 0
  have hmf : ∀ (fn : Fn) (first cap : Array Value) (w : World), (Instr.makeFunc fn first cap).run Try.prog w = .ok (.func fn first cap) w := fun _ _ _ _ => rfl
  have hcall := operate_read g gs c A d F i w.heap.size (w.heap.size + 1) (w.heap.size + 1 + 1 + 1) w4 h4 c1 c2 r4 (by omega) (by omega) hF0 hF1 hF3
  have HC := Lib.hid hcall
  have HB4 := Lib.hid hb4
  have R3 := Lib.hid r3
  have HDK := Lib.hid hdisk
  have HW : Hid ((((w.alloc (.cells #[.pointer (some ⟨g, 0, none⟩)] 24)).alloc (.cells #[.int .i64 i] 3)).alloc (.cells (bv nought).toArray 39)).alloc (.cells (bv nought).toArray 39) = w4) := (show _ = _ by rw [hw4, hw3, hw2, hw1])
  clear hcall hb4 r1 r2 r3 r4 h4 c1 c2 hdisk h hF hF0 hF1
  clear hw4 hw3 hw2 hw1
  go_enter Try.func14, Try.ntmps14
  go_wp2_with fail
  refine Calls.mono (HW.out.symm ▸ HC.out) ?_
  rintro e w5 ⟨rfl, hd5, hr5, ho5⟩
  rw [HW.out] at ho5
  have hr3 : Row w5 (w.heap.size + 1 + 1) 39 (bv nought) := (ho5.block _ R3.out.lt (fun hf => by rcases hf with hf | hf; exact hF2 hf; omega)).trans R3.out
  obtain ⟨L, hL⟩ : ∃ L, L = (d.readM i).2.1 := ⟨_, rfl⟩
  have hlen : L.length = 64 := by
    have h64 := HDK.out
    obtain ⟨⟨_, _, _, h64⟩, _⟩ := h64
    rw [hL, DM.readM]
    split
    · rename_i hz
      refine sec_len h64.good ?_
      have : ¬ ((d.sec.length : Int) ≤ i) ∧ ¬ i < 0 := by
        constructor <;> (intro hc; revert hz; unfold DM.pre; split; simp; simp [hc])
      omega
    · rfl
  rw [← hL] at hr5
  have HL := Lib.hid hL
  have hrg : w5.rangeAt (w.heap.size + 1 + 1 + 1) 0 (bv L) := Row.range hr5 fun j v hj => by simpa using hj
  have HRG := Lib.hid hrg
  have HSZ : Hid ((Try.prog.info? 39).map (·.size) = some L.length) := (show _ = _ by rw [hlen]; exact size39)
  have HSB : Hid ((Try.prog.info? 39).map (·.size) = some (bv L).length) := (show _ = _ by rw [bv_length]; exact HSZ.out)
  have HR3 := Lib.hid hr3
  have HD5 := Lib.hid hd5
  have HO5 := Lib.hid ho5
  have HFT : Hid (0 + (bv L).length ≤ (bv nought).length) := (show _ ≤ _ by rw [bv_length, bv_length, hlen]; exact Nat.le_refl _)
  clear HW HC hL hrg hr3 hd5 ho5 R3 hr5
  go_wp2_with (first
    | (with_reducible refine wpList_load_blk (op := ⟨some 12, _, _, _, _, _⟩) ?_ 39 (.tmp 6) ?_ (w.heap.size + 1 + 1 + 1) 0 ?_ L _ HRG.out Try.underlying39 ?_ HSZ.out ?_)
    | (with_reducible refine wpList_store_in (op := ⟨none, _, _, _, _, _⟩) ?_ 39 (.tmp 4) (.tmp 12) ?_ (w.heap.size + 1 + 1) 0 (bv L) ?_ ?_ 39 (bv nought) HR3.out HFT.out bv_one HSB.out ?_))
  all_goals try rfl
  intro w6 hr6 hg6
  rw [splice_all _ _ (by rw [bv_length, bv_length, hlen]; rfl)] at hr6
  have hres := run_load_blk (P := Try.prog) w6 (w.heap.size + 1 + 1) 0 39 L _ (Row.range hr6 fun j v hj => by simpa using hj) Try.underlying39 rfl HSZ.out
  have ho6 : Off F w w6 := Off.behind HB4.out ((off_mono (F' := fun k => F k ∨ w.heap.size ≤ k) HO5.out (fun k _ hk => hk.imp id (fun e => by omega))).grown hg6 (fun k e => .inl (.inr (by have := Option.some.inj e; omega)))) (fun k hk => hk)
  have hd6 : DskAt w6 F g gs A c (d.readM i).1 := HD5.out.off (F' := fun k => k = w.heap.size + 1 + 1) (fun k hk e => hF2 (e ▸ hk)) (Off.of_grown hg6 (fun k e => (Option.some.inj e).symm))
  have hG : Disk w6 F g (d.readM i).1 ∧ Off F w w6 := ⟨⟨⟨gs, A, c, hd6⟩, fun k hk => Nat.lt_of_lt_of_le (HDK.out.2 k hk) ho6.size⟩, ho6⟩
  have HRES := Lib.hid hres
  have HG := Lib.hid hG
  clear hres ho6 hd6 hG hg6 hr6
  go_wp2
  exact bodyPost_ret (v := .tuple #[blk L, .int .i64 (d.readM i).2.2]) (results_cell_tmp (p := 4) (q := 5) (ty := 39) rfl _ _ ⟨w.heap.size + 1 + 1, 0, none⟩ _ _ rfl HRES.out rfl) rfl ⟨by rw [HL.out], HG.out⟩

theorem read_any (g : Nat) (d : DM) (F : Nat → Prop) (i : Int) (w : World) (h : Disk w F g d) :
    Calls Try.prog 14 #[.pointer (some ⟨g, 0, none⟩), .int .i64 i] w fun e w' => e = .returned (.tuple #[blk (d.readM i).2.1, .int .i64 (d.readM i).2.2]) ∧ Goes F w g (d.readM i).1 w' :=
  (read_keep g d F i w h).mono fun _ _ h2 => ⟨h2.1, F, h2.2.1, Ext.refl _ _ _, h2.2.2⟩

set_option maxHeartbeats 1000000 in
theorem write_any (g : Nat) (d : DM) (F : Nat → Prop) (i : Int) (b : List UInt8) (w : World) (h : Disk w F g d) (hb : b.length = 64) (hp : d.pend.length ≤ 1000000) :
    Calls Try.prog 24 #[.pointer (some ⟨g, 0, none⟩), .int .i64 i, blk b] w fun e w' => e = .returned (.int .i64 (d.writeM i b).2) ∧ Goes F w g (d.writeM i b).1 w' := by
  have hdisk := h
  obtain ⟨⟨gs, A, c, h⟩, hF⟩ := h
  have hF0 : ¬ F w.heap.size := fun hf => by have := hF _ hf; omega
  have hF1 : ¬ F (w.heap.size + 1) := fun hf => by have := hF _ hf; omega
  have hF2 : ¬ F (w.heap.size + 1 + 1) := fun hf => by have := hF _ hf; omega
  obtain ⟨w1, hw1⟩ : ∃ w1, w1 = w.alloc (.cells #[.pointer (some ⟨g, 0, none⟩)] 24) := ⟨_, rfl⟩
  obtain ⟨w2, hw2⟩ : ∃ w2, w2 = w1.alloc (.cells #[.int .i64 i] 3) := ⟨_, rfl⟩
  obtain ⟨w3, hw3⟩ : ∃ w3, w3 = w2.alloc (.cells (bv b).toArray 39) := ⟨_, rfl⟩
  have s1 : w1.heap.size = w.heap.size + 1 := by rw [hw1]; simp
  have s2 : w2.heap.size = w.heap.size + 1 + 1 := by rw [hw2]; simp [s1]
  have s3 : w3.heap.size = w.heap.size + 1 + 1 + 1 := by rw [hw3]; simp [s2]
  have r1 : Row w3 w.heap.size 24 [.pointer (some ⟨g, 0, none⟩)] := by
    rw [hw3, hw2, hw1]
    exact ((Row.new w _ [.pointer (some ⟨g, 0, none⟩)]).alloc _).alloc _
  have r2 : Row w3 (w.heap.size + 1) 3 [.int .i64 i] := by
    have := (Row.new w1 3 [.int .i64 i]).alloc (.cells (bv b).toArray 39)
    rw [s1] at this
    rw [hw3, hw2]; exact this
  have r3 : Row w3 (w.heap.size + 1 + 1) 39 (bv b) := by
    have := Row.new w2 39 (bv b)
    rw [s2] at this
    rw [hw3]; exact this
  have hb3 : Below w.heap.size w w3 := by
    rw [hw3, hw2, hw1]
    exact (((Below.refl _ _).alloc (Nat.le_refl _) _).alloc (by simp) _).alloc (by simp; omega) _
  have h3 := h.below hb3
  have c1 : w3.cell? ⟨w.heap.size, 0, none⟩ = some (.pointer (some ⟨g, 0, none⟩)) := r1.cell 0
  have c2 : w3.cell? ⟨w.heap.size + 1, 0, none⟩ = some (.int .i64 i) := r2.cell 0
  have hmf : ∀ (fn : Fn) (first cap : Array Value) (w : World), (Instr.makeFunc fn first cap).run Try.prog w = .ok (.func fn first cap) w := fun _ _ _ _ => rfl
  have hcall := operate_write g gs c A d F i b w.heap.size (w.heap.size + 1) (w.heap.size + 1 + 1) w3 h3 hb hp c1 c2 (Row.range r3 fun j v hj => by simpa using hj) hF0 hF1 hF2
  have HC := Lib.hid hcall
  have HB3 := Lib.hid hb3
  have HDK := Lib.hid hdisk
  have HW : Hid (((w.alloc (.cells #[.pointer (some ⟨g, 0, none⟩)] 24)).alloc (.cells #[.int .i64 i] 3)).alloc (.cells (bv b).toArray 39) = w3) := (show _ = _ by rw [hw3, hw2, hw1])
  clear hcall hb3 r1 r2 r3 h3 c1 c2 hdisk h hF hF0 hF1 hF2
  clear hw3 hw2 hw1
  unfold blk
  go_enter Try.func24, Try.ntmps24
  go_wp2_with fail
  refine Calls.mono (HW.out.symm ▸ HC.out) ?_
  rintro e w5 ⟨rfl, F', A', c', hd5, hx5, ho5⟩
  rw [HW.out] at hx5 ho5
  have hx : Ext F F' w w5 := fun k hk => by
    rcases hx5 k hk with h1 | h1
    · exact .inl h1
    · exact .inr ⟨by omega, h1.2⟩
  have hG := Goes.mk HDK.out hd5 hx (Off.behind HB3.out ho5 (fun k hk => .inl hk))
  clear hd5 ho5 hx5 hx HC HW
  go_wp2
  go_ret
  exact ⟨rfl, hG⟩
theorem sync_any (g : Nat) (d : DM) (F : Nat → Prop) (w : World) (h : Disk w F g d) :
    Calls Try.prog 21 #[.pointer (some ⟨g, 0, none⟩)] w fun e w' => e = .returned (.int .i64 d.syncM.2) ∧ Goes F w g d.syncM.1 w' := by
  have hdisk := h
  obtain ⟨⟨gs, A, c, h⟩, hF⟩ := h
  have hF0 : ¬ F w.heap.size := fun hf => by have := hF _ hf; omega
  have r1 := Row.new w 24 [.pointer (some ⟨g, 0, none⟩)]
  have hb1 : Below w.heap.size w (w.alloc (.cells #[.pointer (some ⟨g, 0, none⟩)] 24)) := (Below.refl _ _).alloc (Nat.le_refl _) _
  have c1 : (w.alloc (.cells #[.pointer (some ⟨g, 0, none⟩)] 24)).cell? ⟨w.heap.size, 0, none⟩ = some (.pointer (some ⟨g, 0, none⟩)) := r1.cell 0
  have hmf : ∀ (fn : Fn) (first cap : Array Value) (w : World), (Instr.makeFunc fn first cap).run Try.prog w = .ok (.func fn first cap) w := fun _ _ _ _ => rfl
  have hcall := operate_sync g gs c A d F w.heap.size _ (h.below hb1) c1 hF0
  have HC := Lib.hid hcall
  have HB1 := Lib.hid hb1
  have HDK := Lib.hid hdisk
  clear hcall hb1 r1 c1 hdisk h hF hF0
  go_enter Try.func21, Try.ntmps21
  go_wp2_with fail
  refine HC.out.mono ?_
  rintro e w5 ⟨rfl, A', c', hd5, ho5⟩
  have hG := Goes.mk HDK.out hd5 (Ext.refl _ _ _) (Off.behind HB1.out ho5 (fun k hk => .inl hk))
  clear hd5 ho5 HC
  go_wp2
  go_ret
  exact ⟨rfl, hG⟩

theorem read_nil (i : Int) (w : World) : Calls Try.prog 14 #[.pointer none, .int .i64 i] w fun e w' => e = .returned (.tuple #[blk nought, .int .i64 1]) ∧ Below w.heap.size w w' := by
  have hmf : ∀ (fn : Fn) (first cap : Array Value) (w : World), (Instr.makeFunc fn first cap).run Try.prog w = .ok (.func fn first cap) w := fun _ _ _ _ => rfl
  obtain ⟨w1, hw1⟩ : ∃ w1, w1 = w.alloc (.cells #[.pointer none] 24) := ⟨_, rfl⟩
  obtain ⟨w2, hw2⟩ : ∃ w2, w2 = w1.alloc (.cells #[.int .i64 i] 3) := ⟨_, rfl⟩
  obtain ⟨w3, hw3⟩ : ∃ w3, w3 = w2.alloc (.cells (bv nought).toArray 39) := ⟨_, rfl⟩
  obtain ⟨w4, hw4⟩ : ∃ w4, w4 = w3.alloc (.cells (bv nought).toArray 39) := ⟨_, rfl⟩
  have s1 : w1.heap.size = w.heap.size + 1 := by rw [hw1]; simp
  have s2 : w2.heap.size = w.heap.size + 1 + 1 := by rw [hw2]; simp [s1]
  have s3 : w3.heap.size = w.heap.size + 1 + 1 + 1 := by rw [hw3]; simp [s2]
  have r3 : Row w4 (w.heap.size + 1 + 1) 39 (bv nought) := by
    have := (Row.new w2 39 (bv nought)).alloc (.cells (bv nought).toArray 39)
    rw [s2] at this
    rw [hw4, hw3]; exact this
  have r4 : Row w4 (w.heap.size + 1 + 1 + 1) 39 (bv nought) := by
    have := Row.new w3 39 (bv nought)
    rw [s3] at this
    rw [hw4]; exact this
  have hb4 : Below w.heap.size w w4 := by
    rw [hw4, hw3, hw2, hw1]
    exact ((((Below.refl _ _).alloc (Nat.le_refl _) _).alloc (by simp) _).alloc (by simp; omega) _).alloc (by simp; omega) _
  have HW : Hid ((((w.alloc (.cells #[.pointer none] 24)).alloc (.cells #[.int .i64 i] 3)).alloc (.cells (bv nought).toArray 39)).alloc (.cells (bv nought).toArray 39) = w4) := (show _ = _ by rw [hw4, hw3, hw2, hw1])
  have HB4 := Lib.hid hb4
  have R3 := Lib.hid r3
  have HRG := Lib.hid (Row.range r4 (o := 0) (vs := bv nought) fun j v hj => by simpa using hj)
  have HSZ : Hid ((Try.prog.info? 39).map (·.size) = some nought.length) := size39
  have HSB : Hid ((Try.prog.info? 39).map (·.size) = some (bv nought).length) := (show _ = _ by rw [bv_length]; exact size39)
  have HC := Lib.hid (operate_nil i false (.func (.func 37) #[] #[.pointer (some ⟨w.heap.size, 0, none⟩), .pointer (some ⟨w.heap.size + 1, 0, none⟩), .pointer (some ⟨w.heap.size + 1 + 1 + 1, 0, none⟩)]) w4)
  clear r3 r4 hb4
  clear hw4 hw3 hw2 hw1
  go_enter Try.func14, Try.ntmps14
  go_wp2_with fail
  refine Calls.mono (HW.out.symm ▸ HC.out) ?_
  rintro e w5 ⟨rfl, rfl⟩
  rw [HW.out]
  go_wp2_with (first
    | (with_reducible refine wpList_load_blk (op := ⟨some 12, _, _, _, _, _⟩) ?_ 39 (.tmp 6) ?_ (w.heap.size + 1 + 1 + 1) 0 ?_ nought _ HRG.out Try.underlying39 ?_ HSZ.out ?_)
    | (with_reducible refine wpList_store_in (op := ⟨none, _, _, _, _, _⟩) ?_ 39 (.tmp 4) (.tmp 12) ?_ (w.heap.size + 1 + 1) 0 (bv nought) ?_ ?_ 39 (bv nought) R3.out (Nat.le_of_eq (Nat.zero_add _)) bv_one HSB.out ?_))
  all_goals try rfl
  intro w6 hr6 hg6
  rw [splice_all _ _ rfl] at hr6
  have hres := run_load_blk (P := Try.prog) w6 (w.heap.size + 1 + 1) 0 39 nought _ (Row.range hr6 fun j v hj => by simpa using hj) Try.underlying39 rfl HSZ.out
  have hB : Below w.heap.size w w6 := HB4.out.grown hg6 HB4.out.size (fun k e => by have := Option.some.inj e; omega)
  have HRES := Lib.hid hres
  clear hres hg6 hr6
  go_wp2
  exact bodyPost_ret (v := .tuple #[blk nought, .int .i64 1]) (results_cell_tmp (p := 4) (q := 5) (ty := 39) rfl _ _ ⟨w.heap.size + 1 + 1, 0, none⟩ _ _ rfl HRES.out rfl) rfl ⟨rfl, hB⟩
theorem write_nil (i : Int) (b : List UInt8) (w : World) : Calls Try.prog 24 #[.pointer none, .int .i64 i, blk b] w fun e w' => e = .returned (.int .i64 1) ∧ Below w.heap.size w w' := by
  have hmf : ∀ (fn : Fn) (first cap : Array Value) (w : World), (Instr.makeFunc fn first cap).run Try.prog w = .ok (.func fn first cap) w := fun _ _ _ _ => rfl
  unfold blk
  go_enter Try.func24, Try.ntmps24
  go_wp2_with fail
  refine (operate_nil _ _ _ _).mono ?_
  rintro e w5 ⟨rfl, rfl⟩
  go_wp2
  go_ret
  exact ⟨rfl, (((Below.refl _ _).alloc (Nat.le_refl _) _).alloc (by simp) _).alloc (by simp; omega) _⟩
theorem sync_nil (w : World) : Calls Try.prog 21 #[.pointer none] w fun e w' => e = .returned (.int .i64 1) ∧ Below w.heap.size w w' := by
  have hmf : ∀ (fn : Fn) (first cap : Array Value) (w : World), (Instr.makeFunc fn first cap).run Try.prog w = .ok (.func fn first cap) w := fun _ _ _ _ => rfl
  go_enter Try.func21, Try.ntmps21
  go_wp2_with fail
  refine (operate_nil _ _ _ _).mono ?_
  rintro e w5 ⟨rfl, rfl⟩
  go_wp2
  go_ret
  exact ⟨rfl, (Below.refl _ _).alloc (Nat.le_refl _) _⟩
end Go.Proofs.Ytbfpadilcfelbaa.Dsk
