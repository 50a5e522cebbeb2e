/-
  The contracts of New, Arm, Fail, Pending; what a nil disk answers.
-/
import Derived.Test.YtbfpadilcfelbaaDev5
import Derived.Test.YtbfpadilcfelbaaDsk4
namespace Go.Proofs.Ytbfpadilcfelbaa.Dsk
open Go.RowKit Go.Proofs.Ytbfpadilcfelbaa.Wd

def DM.armM (d : DM) (n : Int) : DM × Int := if d.dead then (d, 9) else ({ d with ps := decide (0 ≤ n), pl := if n < 0 then 0 else n }, 0)
def DM.failM (d : DM) (n : Int) : DM × Int := if d.dead then (d, 9) else ({ d with fs := decide (0 ≤ n), fl := if n < 0 then 0 else n }, 0)
/-- a new disk -/
def DM.new (n : Nat) : DM := ⟨List.replicate n nought, [], false, false, 0, false, 0, 0⟩

theorem arm_nil (n : Int) (w : World) : Calls Try.prog 27 #[.pointer none, .int .i64 n] w fun e w' => e = .returned (.int .i64 1) ∧ w' = w := by
  go_enter Try.func27, Try.ntmps27
  go_wp2_with fail
  refine (off_nil _).mono ?_
  rintro e w5 ⟨rfl, rfl⟩
  go_wp2
  go_ret
  exact ⟨rfl, rfl⟩
theorem fail_nil (n : Int) (w : World) : Calls Try.prog 28 #[.pointer none, .int .i64 n] w fun e w' => e = .returned (.int .i64 1) ∧ w' = w := by
  go_enter Try.func28, Try.ntmps28
  go_wp2_with fail
  refine (off_nil _).mono ?_
  rintro e w5 ⟨rfl, rfl⟩
  go_wp2
  go_ret
  exact ⟨rfl, rfl⟩
theorem arm_any (g : Nat) (d : DM) (F : Nat → Prop) (n : Int) (w : World) (h : Disk w F g d) (hn : n < 9223372036854775808) :
    Calls Try.prog 27 #[.pointer (some ⟨g, 0, none⟩), .int .i64 n] w fun e w' => e = .returned (.int .i64 (d.armM n).2) ∧ Goes F w g (d.armM n).1 w' := by
  have hdisk := h
  obtain ⟨⟨gs, A, c, h⟩, hF⟩ := h
  have c2 : w.cell? ⟨g, 2, none⟩ = some (.bool d.dead) := h.row.cell 2
  cases hd : d.dead with
  | true =>
    have e : d.armM n = (d, 9) := by rw [DM.armM, if_pos hd]
    rw [hd] at c2
    have hG := Goes.mk hdisk h (Ext.refl _ _ _) (Off.refl _ _)
    rw [e]
    clear h hdisk
    go_enter Try.func27, Try.ntmps27
    go_wp2_with fail
    refine (off_any _ true _ c2).mono ?_
    rintro e w5 ⟨rfl, rfl⟩
    go_wp2
    go_ret
    exact ⟨rfl, hG⟩
  | false =>
    rw [hd] at c2
    have hl := h.good.left
    have e : d.armM n = ({ d with ps := decide (0 ≤ n), pl := if n < 0 then 0 else n }, 0) := by rw [DM.armM, hd]; rfl
    rw [e]
    have HD := Lib.hid h
    have HDK := Lib.hid hdisk
    clear h hdisk e
    by_cases h0 : n < 0
    · have hz : decide (0 ≤ n) = false := by simp; omega
      rw [hz, if_pos h0]
      have HF := from_any n w
      rw [if_pos h0] at HF
      have HF' := Lib.hid HF
      clear HF
      go_enter Try.func27, Try.ntmps27
      go_wp2_with fail
      refine (off_any _ false _ c2).mono ?_
      rintro e w5 ⟨rfl, rfl⟩
      go_wp2_with fail
      refine HF'.out.mono ?_
      rintro e w6 ⟨rfl, hb⟩
      have h6 := HD.out.below hb
      have c3 : w6.cell? ⟨g, 3, none⟩ = some (.bool d.ps) := h6.row.cell 3
      have c4 : w6.cell? ⟨g, 4, none⟩ = some (.int .i64 d.pl) := h6.row.cell 4
      have f3 := h6.row.frozen 3
      have f4 := h6.row.frozen 4
      have hdk := (h6.store (i := 3) (v := .bool false) (d' := { d with ps := false }) rfl rfl rfl ⟨h6.good.pos, h6.good.most, h6.good.sec, h6.good.pend, h6.good.left⟩).store (i := 4) (v := .int .i64 0) (d' := { d with ps := false, pl := 0 }) rfl rfl rfl
          ⟨h6.good.pos, h6.good.most, h6.good.sec, h6.good.pend, by simp, by simp, h6.good.left.2.2.1, h6.good.left.2.2.2⟩
      have hG := Goes.mk HDK.out hdk (Ext.refl _ _ _) (((Off.of_below hb).setCell (.inl h6.fg) _).setCell (.inl h6.fg) _)
      have HG := Lib.hid hG
      clear h6 hdk hG hb HF'
      go_wp2
      go_ret
      exact ⟨rfl, HG.out⟩
    · have hz : decide (0 ≤ n) = true := by simp; omega
      rw [hz, if_neg h0]
      have HF := from_any n w
      rw [if_neg h0] at HF
      have HF' := Lib.hid HF
      clear HF
      go_enter Try.func27, Try.ntmps27
      go_wp2_with fail
      refine (off_any _ false _ c2).mono ?_
      rintro e w5 ⟨rfl, rfl⟩
      go_wp2_with fail
      refine HF'.out.mono ?_
      rintro e w6 ⟨rfl, hb⟩
      have h6 := HD.out.below hb
      have c3 : w6.cell? ⟨g, 3, none⟩ = some (.bool d.ps) := h6.row.cell 3
      have c4 : w6.cell? ⟨g, 4, none⟩ = some (.int .i64 d.pl) := h6.row.cell 4
      have f3 := h6.row.frozen 3
      have f4 := h6.row.frozen 4
      have hdk := (h6.store (i := 3) (v := .bool true) (d' := { d with ps := true }) rfl rfl rfl ⟨h6.good.pos, h6.good.most, h6.good.sec, h6.good.pend, h6.good.left⟩).store (i := 4) (v := .int .i64 n) (d' := { d with ps := true, pl := n }) rfl rfl rfl
          ⟨h6.good.pos, h6.good.most, h6.good.sec, h6.good.pend, by show 0 ≤ n; omega, by show n < _; exact hn, h6.good.left.2.2.1, h6.good.left.2.2.2⟩
      have hG := Goes.mk HDK.out hdk (Ext.refl _ _ _) (((Off.of_below hb).setCell (.inl h6.fg) _).setCell (.inl h6.fg) _)
      have HG := Lib.hid hG
      clear h6 hdk hG hb HF'
      go_wp2
      go_ret
      exact ⟨rfl, HG.out⟩
theorem fail_any (g : Nat) (d : DM) (F : Nat → Prop) (n : Int) (w : World) (h : Disk w F g d) (hn : n < 9223372036854775808) :
    Calls Try.prog 28 #[.pointer (some ⟨g, 0, none⟩), .int .i64 n] w fun e w' => e = .returned (.int .i64 (d.failM n).2) ∧ Goes F w g (d.failM n).1 w' := by
  have hdisk := h
  obtain ⟨⟨gs, A, c, h⟩, hF⟩ := h
  have c2 : w.cell? ⟨g, 2, none⟩ = some (.bool d.dead) := h.row.cell 2
  cases hd : d.dead with
  | true =>
    have e : d.failM n = (d, 9) := by rw [DM.failM, if_pos hd]
    rw [hd] at c2
    have hG := Goes.mk hdisk h (Ext.refl _ _ _) (Off.refl _ _)
    rw [e]
    clear h hdisk
    go_enter Try.func28, Try.ntmps28
    go_wp2_with fail
    refine (off_any _ true _ c2).mono ?_
    rintro e w5 ⟨rfl, rfl⟩
    go_wp2
    go_ret
    exact ⟨rfl, hG⟩
  | false =>
    rw [hd] at c2
    have hl := h.good.left
    have e : d.failM n = ({ d with fs := decide (0 ≤ n), fl := if n < 0 then 0 else n }, 0) := by rw [DM.failM, hd]; rfl
    rw [e]
    have HD := Lib.hid h
    have HDK := Lib.hid hdisk
    clear h hdisk e
    by_cases h0 : n < 0
    · have hz : decide (0 ≤ n) = false := by simp; omega
      rw [hz, if_pos h0]
      have HF := from_any n w
      rw [if_pos h0] at HF
      have HF' := Lib.hid HF
      clear HF
      go_enter Try.func28, Try.ntmps28
      go_wp2_with fail
      refine (off_any _ false _ c2).mono ?_
      rintro e w5 ⟨rfl, rfl⟩
      go_wp2_with fail
      refine HF'.out.mono ?_
      rintro e w6 ⟨rfl, hb⟩
      have h6 := HD.out.below hb
      have c3 : w6.cell? ⟨g, 5, none⟩ = some (.bool d.fs) := h6.row.cell 5
      have c4 : w6.cell? ⟨g, 6, none⟩ = some (.int .i64 d.fl) := h6.row.cell 6
      have f3 := h6.row.frozen 5
      have f4 := h6.row.frozen 6
      have hdk := (h6.store (i := 5) (v := .bool false) (d' := { d with fs := false }) rfl rfl rfl ⟨h6.good.pos, h6.good.most, h6.good.sec, h6.good.pend, h6.good.left⟩).store (i := 6) (v := .int .i64 0) (d' := { d with fs := false, fl := 0 }) rfl rfl rfl
          ⟨h6.good.pos, h6.good.most, h6.good.sec, h6.good.pend, h6.good.left.1, h6.good.left.2.1, by simp, by simp⟩
      have hG := Goes.mk HDK.out hdk (Ext.refl _ _ _) (((Off.of_below hb).setCell (.inl h6.fg) _).setCell (.inl h6.fg) _)
      have HG := Lib.hid hG
      clear h6 hdk hG hb HF'
      go_wp2
      go_ret
      exact ⟨rfl, HG.out⟩
    · have hz : decide (0 ≤ n) = true := by simp; omega
      rw [hz, if_neg h0]
      have HF := from_any n w
      rw [if_neg h0] at HF
      have HF' := Lib.hid HF
      clear HF
      go_enter Try.func28, Try.ntmps28
      go_wp2_with fail
      refine (off_any _ false _ c2).mono ?_
      rintro e w5 ⟨rfl, rfl⟩
      go_wp2_with fail
      refine HF'.out.mono ?_
      rintro e w6 ⟨rfl, hb⟩
      have h6 := HD.out.below hb
      have c3 : w6.cell? ⟨g, 5, none⟩ = some (.bool d.fs) := h6.row.cell 5
      have c4 : w6.cell? ⟨g, 6, none⟩ = some (.int .i64 d.fl) := h6.row.cell 6
      have f3 := h6.row.frozen 5
      have f4 := h6.row.frozen 6
      have hdk := (h6.store (i := 5) (v := .bool true) (d' := { d with fs := true }) rfl rfl rfl ⟨h6.good.pos, h6.good.most, h6.good.sec, h6.good.pend, h6.good.left⟩).store (i := 6) (v := .int .i64 n) (d' := { d with fs := true, fl := n }) rfl rfl rfl
          ⟨h6.good.pos, h6.good.most, h6.good.sec, h6.good.pend, h6.good.left.1, h6.good.left.2.1, by show 0 ≤ n; omega, by show n < _; exact hn⟩
      have hG := Goes.mk HDK.out hdk (Ext.refl _ _ _) (((Off.of_below hb).setCell (.inl h6.fg) _).setCell (.inl h6.fg) _)
      have HG := Lib.hid hG
      clear h6 hdk hG hb HF'
      go_wp2
      go_ret
      exact ⟨rfl, HG.out⟩
theorem dnew_bad (n : Int) (w : World) (h : n < 1 ∨ 2048 < n) :
    Calls Try.prog 7 #[.int .i64 n] w fun e w' => e = .returned (.tuple #[.pointer none, .int .i64 2]) ∧ w' = w := by
  rcases h with h | h
  · go_enter Try.func7, Try.ntmps7
    go_wp2
    exact bodyPost_ret (v := .tuple #[.pointer none, .int .i64 2]) (by simp [results, Try.results7, go_sem]) rfl ⟨rfl, rfl⟩
  · have h1 : ¬ n < 1 := by omega
    go_enter Try.func7, Try.ntmps7
    go_wp2
    exact bodyPost_ret (v := .tuple #[.pointer none, .int .i64 2]) (by simp [results, Try.results7, go_sem]) rfl ⟨rfl, rfl⟩
theorem new_good_dm (n : Nat) (h1 : 1 ≤ n) (h2 : n ≤ 2048) : Good (DM.new n) := by
  refine ⟨by simp [DM.new]; omega, by simpa [DM.new] using h2, fun b hb => ?_, (fun p hp => by cases hp), by simp [DM.new]⟩
  have := List.eq_of_mem_replicate hb
  rw [this]; rfl
theorem dnew_good (n : Nat) (w : World) (h1 : 1 ≤ n) (h2 : n ≤ 2048) :
    Calls Try.prog 7 #[.int .i64 (n : Int)] w fun e w' => ∃ g, e = .returned (.tuple #[.pointer (some ⟨g, 0, none⟩), .int .i64 0]) ∧ ∃ F, Disk w' F g (DM.new n) ∧ (∀ k, F k → w.heap.size ≤ k) ∧ Below w.heap.size w w' := by
  have hmk := make_blks n h2
  have a1 : ¬ (n : Int) < 1 := by omega
  have a2 : ¬ (2048 : Int) < (n : Int) := by omega
  go_enter Try.func7, Try.ntmps7
  go_wp2
  refine bodyPost_ret (v := .tuple #[.pointer (some ⟨w.heap.size + 1, 0, none⟩), .int .i64 0]) (by simp [results, Try.results7, go_sem]) rfl ⟨w.heap.size + 1, rfl, fun k => w.heap.size ≤ k ∧ k < w.heap.size + 2, ⟨⟨w.heap.size, none, 0, ?_⟩, ?_⟩, ?_, ((Below.refl _ _).alloc (Nat.le_refl _) _).alloc (by simp) _⟩
  · refine ⟨⟨by omega, by omega⟩, ⟨by omega, by omega⟩, by omega, (fun k hk => by cases hk), ?_, ?_, World.ownsRow_nil _ _ _ _, new_good_dm n h1 h2⟩
    · have := Row.new (w.alloc (.cells (madeCells (bv nought).toArray (n * 64)) 39)) 64 (dcs w.heap.size none 0 (DM.new n))
      simp only [World.size_alloc] at this
      simpa [dcs, DM.new] using this
    · have e2 : bv nought = List.replicate 64 (.int .u8 0) := (bv_zero 64).symm
      have e3 : bv (DM.new n).sec.flatten = List.replicate (n * 64) (.int .u8 0) := by
        show bv (List.replicate n (List.replicate 64 0)).flatten = _
        rw [List.flatten_replicate_replicate, ← bv_zero]
      rw [e2, made_rep _ _ _ (by omega), e3]
      exact (Row.new w 39 _).alloc _
  · intro k hk
    have := hk.2
    simp; omega
  · intro k hk
    exact hk.1
end Go.Proofs.Ytbfpadilcfelbaa.Dsk
