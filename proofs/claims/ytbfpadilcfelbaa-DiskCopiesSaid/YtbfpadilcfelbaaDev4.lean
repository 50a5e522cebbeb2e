/-
  The contracts of Read, Write, Sync.
-/
import Derived.Test.YtbfpadilcfelbaaDev3
namespace Go.Proofs.Ytbfpadilcfelbaa.Dsk
open Go.RowKit Go.Proofs.Ytbfpadilcfelbaa.Wd

theorem pre_sec (d : DM) (i : Int) (ch : Bool) : (d.pre i ch).1.sec = d.sec := by
  unfold DM.pre
  simp only []
  split <;> (try rfl)
  split <;> (try rfl)
  split <;> (try rfl)
  split <;> (try rfl)
  split <;> rfl
theorem pre_pend (d : DM) (i : Int) (ch : Bool) : (d.pre i ch).1.pend = d.pend := by
  unfold DM.pre
  simp only []
  split <;> (try rfl)
  split <;> (try rfl)
  split <;> (try rfl)
  split <;> (try rfl)
  split <;> rfl
/-- what Read does and answers -/
def DM.readM (d : DM) (i : Int) : DM × List UInt8 × Int :=
  if (d.pre i false).2 = 0 then ((d.pre i false).1.tally, d.sec.getD i.toNat [], 0) else ((d.pre i false).1, nought, (d.pre i false).2)
/-- what Write does and answers -/
def DM.writeM (d : DM) (i : Int) (b : List UInt8) : DM × Int :=
  if (d.pre i true).2 = 0 then (((d.pre i true).1.put i.toNat b).tally, 0) else d.pre i true
/-- what Sync does and answers -/
def DM.syncM (d : DM) : DM × Int :=
  if (d.pre 0 true).2 = 0 then ({ (d.pre 0 true).1 with pend := [] }.tally, 0) else d.pre 0 true

theorem operate_read (g gs c : Nat) (A : Option Addr) (d : DM) (F : Nat → Prop) (i : Int) (b0 b1 b2 : Nat) (w : World) (h : DskAt w F g gs A c d)
    (h0 : w.cell? ⟨b0, 0, none⟩ = some (.pointer (some ⟨g, 0, none⟩))) (h1 : w.cell? ⟨b1, 0, none⟩ = some (.int .i64 i)) (h2 : Row w b2 39 (bv nought)) (hb0 : b0 ≠ b2) (hb1 : b1 ≠ b2) (hF0 : ¬ F b0) (hF1 : ¬ F b1) (hF2 : ¬ F b2) :
    Calls Try.prog 36 #[.pointer (some ⟨g, 0, none⟩), .int .i64 i, .bool false, .func (.func 37) #[] #[.pointer (some ⟨b0, 0, none⟩), .pointer (some ⟨b1, 0, none⟩), .pointer (some ⟨b2, 0, none⟩)]] w
      fun e w' => e = .returned (.int .i64 (d.readM i).2.2) ∧ DskAt w' F g gs A c (d.readM i).1 ∧ Row w' b2 39 (bv (d.readM i).2.1) ∧ Off (fun k => F k ∨ k = b2) w w' := by
  refine operate_any g gs c A d F i false _ _ w _ h (fun _ => rfl) (fun he w' h' ho _ => ?_) (fun he hi0 hi1 w1 h' ho _ => ?_)
  · have e : d.readM i = ((d.pre i false).1, nought, (d.pre i false).2) := by rw [DM.readM, if_neg he]
    rw [e]
    exact ⟨rfl, h', (ho.block b2 h2.lt hF2).trans h2, ho.os, ho.tape, ho.output, ho.size, fun k hk hn => ho.block k hk (fun hf => hn (.inl hf))⟩
  · obtain ⟨n, rfl⟩ := Int.eq_ofNat_of_zero_le hi0
    have e : d.readM (n : Int) = ((d.pre n false).1.tally, d.sec.getD n [], 0) := by rw [DM.readM, if_pos he]; rfl
    have hs := pre_sec d n false
    rw [e]
    refine (read1_any g gs c A _ F n b0 b1 b2 w1 h' (by rw [hs]; omega) (ho.cell hF0 h0) (ho.cell hF1 h1) ((ho.block b2 h2.lt hF2).trans h2) hb0 hb1 hF2).mono ?_
    rintro e w2 ⟨rfl, hr, hg⟩
    have ho2 : Off (fun k => k = b2) w1 w2 := Off.of_grown hg (fun k e => (Option.some.inj e).symm)
    have h3 := h'.off (F' := fun k => k = b2) (fun k hk e => hF2 (e ▸ hk)) ho2
    refine ⟨rfl, (d.pre n false).1.ops, h3.row.cell 7, h3.row.frozen 7, rfl, h3.tally, ?_, ?_⟩
    · rw [hs] at hr
      exact hr.far (p := ⟨g, 7, none⟩) (fun e => hF2 (e ▸ h.fg)) _
    · refine Off.setCell ?_ (.inl (.inl h.fg)) _
      exact ⟨ho2.os.trans ho.os, ho2.tape.trans ho.tape, ho2.output.trans ho.output, Nat.le_trans ho.size ho2.size, fun k hk hn => (ho2.block k (Nat.lt_of_lt_of_le hk ho.size) (fun hf => hn (.inr hf))).trans (ho.block k hk (fun hf => hn (.inl hf)))⟩

theorem operate_write (g gs c : Nat) (A : Option Addr) (d : DM) (F : Nat → Prop) (i : Int) (b : List UInt8) (b0 b1 b2 : Nat) (w : World) (h : DskAt w F g gs A c d) (hb : b.length = 64) (hp : d.pend.length ≤ 1000000)
    (h0 : w.cell? ⟨b0, 0, none⟩ = some (.pointer (some ⟨g, 0, none⟩))) (h1 : w.cell? ⟨b1, 0, none⟩ = some (.int .i64 i)) (h2 : w.rangeAt b2 0 (bv b)) (hF0 : ¬ F b0) (hF1 : ¬ F b1) (hF2 : ¬ F b2) :
    Calls Try.prog 36 #[.pointer (some ⟨g, 0, none⟩), .int .i64 i, .bool true, .func (.func 42) #[] #[.pointer (some ⟨b0, 0, none⟩), .pointer (some ⟨b1, 0, none⟩), .pointer (some ⟨b2, 0, none⟩)]] w
      fun e w' => e = .returned (.int .i64 (d.writeM i b).2) ∧ ∃ F' A' c', DskAt w' F' g gs A' c' (d.writeM i b).1 ∧ Ext F F' w w' ∧ Off F w w' := by
  refine operate_any g gs c A d F i true _ _ w _ h (fun _ => rfl) (fun he w' h' ho _ => ?_) (fun he hi0 hi1 w1 h' ho hz => ?_)
  · have e : d.writeM i b = d.pre i true := by rw [DM.writeM, if_neg he]
    rw [e]
    exact ⟨rfl, F, A, c, h', Ext.refl _ _ _, ho⟩
  · obtain ⟨n, rfl⟩ := Int.eq_ofNat_of_zero_le hi0
    have e : d.writeM (n : Int) b = (((d.pre n true).1.put n b).tally, 0) := by rw [DM.writeM, if_pos he]; rfl
    have hs := pre_sec d n true
    rw [e]
    refine (write1_any g gs c A _ F n b b0 b1 b2 w1 h' (by rw [hs]; omega) hb (by rw [pre_pend]; exact hp) (ho.cell hF0 h0) (ho.cell hF1 h1) (ho.range hF2 h2) hF0 hF1 hF2).mono ?_
    rintro e w2 ⟨rfl, F', A', c', h3, hx, ho2⟩
    have hx' : Ext F F' w w2 := (Ext.refl F w w1).trans ho.size ho2.size hx
    refine ⟨rfl, (d.pre n true).1.ops, h3.row.cell 7, h3.row.frozen 7, rfl, F', A', c', h3.tally, fun k hk => ?_, Off.setCell (ho.trans (Ext.refl _ _ _) ho2) (.inl h.fg) _⟩
    have := hx' k hk
    simpa [World.setCell] using this

theorem operate_sync (g gs c : Nat) (A : Option Addr) (d : DM) (F : Nat → Prop) (b0 : Nat) (w : World) (h : DskAt w F g gs A c d)
    (h0 : w.cell? ⟨b0, 0, none⟩ = some (.pointer (some ⟨g, 0, none⟩))) (hF0 : ¬ F b0) :
    Calls Try.prog 36 #[.pointer (some ⟨g, 0, none⟩), .int .i64 0, .bool true, .func (.func 41) #[] #[.pointer (some ⟨b0, 0, none⟩)]] w
      fun e w' => e = .returned (.int .i64 d.syncM.2) ∧ ∃ A' c', DskAt w' F g gs A' c' d.syncM.1 ∧ Off F w w' := by
  refine operate_any g gs c A d F 0 true _ _ w _ h (fun _ => rfl) (fun he w' h' ho _ => ?_) (fun he hi0 hi1 w1 h' ho hz => ?_)
  · have e : d.syncM = d.pre 0 true := by rw [DM.syncM, if_neg he]
    rw [e]
    exact ⟨rfl, A, c, h', ho⟩
  · have e : d.syncM = ({ (d.pre 0 true).1 with pend := [] }.tally, 0) := by rw [DM.syncM, if_pos he]
    rw [e]
    refine (sync1_any g gs c A _ F b0 w1 h' (ho.cell hF0 h0)).mono ?_
    rintro e w2 ⟨rfl, h3, ho2, _⟩
    exact ⟨rfl, (d.pre 0 true).1.ops, h3.row.cell 7, h3.row.frozen 7, rfl, none, 0, h3.tally, Off.setCell (ho.trans (Ext.refl _ _ _) ho2) (.inl h.fg) _⟩
end Go.Proofs.Ytbfpadilcfelbaa.Dsk
