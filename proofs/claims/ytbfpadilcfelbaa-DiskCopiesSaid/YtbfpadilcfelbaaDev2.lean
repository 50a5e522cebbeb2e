/-
  The contract of operate, over whatever step.
-/
import Derived.Test.YtbfpadilcfelbaaDev1
namespace Go.Proofs.Ytbfpadilcfelbaa.Dsk
open Go.RowKit Go.Proofs.Ytbfpadilcfelbaa.Wd

/-- ahead of an operation on sector i: what is left of the disk, and why it is not done (0: it is) -/
def DM.pre (d : DM) (i : Int) (ch : Bool) : DM × Int :=
  if d.dead then (d, 9) else if i < 0 then (d, 2) else if (d.sec.length : Int) ≤ i then (d, 2)
  else if d.fs = true ∧ d.fl = 0 then ({ d with fs := false, fl := 0 }, 8)
  else
    let d1 : DM := { d with fl := if d.fs = true then d.fl - 1 else d.fl }
    if ch = true ∧ d1.ps = true ∧ d1.pl = 0 then ({ d1 with dead := true }, 9)
    else ({ d1 with pl := if ch = true ∧ d1.ps = true then d1.pl - 1 else d1.pl }, 0)
def DM.tally (d : DM) : DM := { d with ops := wrap64 (d.ops + 1) }
section
variable {w w' : World} {F : Nat → Prop} {g gs c : Nat} {A : Option Addr} {d : DM}
theorem DskAt.store {i : Nat} {v : Value} {d' : DM} (h : DskAt w F g gs A c d) (hr : (dcs gs A c d).set i v = dcs gs A c d') (he : d'.pend = d.pend) (hs : d'.sec = d.sec) (hgd : Good d') : DskAt (w.setCell ⟨g, i, none⟩ v) F g gs A c d' :=
  h.turn (by have := h.row.store i v; rwa [hr] at this) he hs hgd (fun k _ hne => Below.heap_setCell w _ v k hne)
theorem DskAt.tally (h : DskAt w F g gs A c d) : DskAt (w.setCell ⟨g, 7, none⟩ (.int .i64 (wrap64 (d.ops + 1)))) F g gs A c d.tally :=
  h.store rfl rfl rfl ⟨h.good.pos, h.good.most, h.good.sec, h.good.pend, h.good.left⟩
end
theorem operate_nil (i : Int) (ch : Bool) (fv : Value) (w : World) : Calls Try.prog 36 #[.pointer none, .int .i64 i, .bool ch, fv] w fun e w' => e = .returned (.int .i64 1) ∧ w' = w := by
  go_enter Try.func36, Try.ntmps36
  go_wp2_with fail
  refine (off_nil _).mono ?_
  rintro e w' ⟨rfl, rfl⟩
  go_wp2
  go_ret
  exact ⟨rfl, rfl⟩

set_option maxHeartbeats 1000000 in
theorem operate_any (g gs c : Nat) (A : Option Addr) (d : DM) (F : Nat → Prop) (i : Int) (ch : Bool) (k : FuncId) (caps : Array Value) (w : World) (R : Ending → World → Prop) (h : DskAt w F g gs A c d) (hk : ∀ u, (callFunc k caps).run Try.prog u = .ok (.enter k caps) u)
    (hstop : (d.pre i ch).2 ≠ 0 → ∀ w', DskAt w' F g gs A c (d.pre i ch).1 → Off F w w' → w'.heap.size = w.heap.size → R (.returned (.int .i64 (d.pre i ch).2)) w')
    (hgo : (d.pre i ch).2 = 0 → 0 ≤ i → i < (d.sec.length : Int) → ∀ w1, DskAt w1 F g gs A c (d.pre i ch).1 → Off F w w1 → w1.heap.size = w.heap.size → Calls Try.prog k caps w1 fun e w2 => e = .returned (.tuple #[]) ∧
      ∃ o, w2.cell? ⟨g, 7, none⟩ = some (.int .i64 o) ∧ w2.frozen? ⟨g, 7, none⟩ = false ∧ R (.returned (.int .i64 0)) (w2.setCell ⟨g, 7, none⟩ (.int .i64 (wrap64 (o + 1))))) :
    Calls Try.prog 36 #[.pointer (some ⟨g, 0, none⟩), .int .i64 i, .bool ch, .func (.func k) #[] caps] w R := by
  have HS := Lib.hid hstop
  have HG := Lib.hid hgo
  have HK := Lib.hid hk
  clear hstop hgo hk
  have c2 : w.cell? ⟨g, 2, none⟩ = some (.bool d.dead) := h.row.cell 2
  cases hd : d.dead with
  | true =>
    have e : d.pre i ch = (d, 9) := by simp [DM.pre, hd]
    have hR := HS.out (by rw [e]; simp) w (by rw [e]; exact h) (Off.refl _ _) rfl
    rw [e] at hR
    rw [hd] at c2
    clear HS HG h
    go_enter Try.func36, Try.ntmps36
    go_wp2_with fail
    refine (off_any _ true _ c2).mono ?_
    rintro e w' ⟨rfl, rfl⟩
    go_wp2
    exact hR
  | false =>
    rw [hd] at c2
    have c0 : w.cell? ⟨g, 0, none⟩ = some (.slice (some ⟨gs, 0, none⟩) d.sec.length d.sec.length) := h.row.cell 0
    by_cases hi0 : i < 0
    · have e : d.pre i ch = (d, 2) := by simp [DM.pre, hd, hi0]
      have hR := HS.out (by rw [e]; simp) w (by rw [e]; exact h) (Off.refl _ _) rfl
      rw [e] at hR
      clear HS HG h
      go_enter Try.func36, Try.ntmps36
      go_wp2_with fail
      refine (off_any _ false _ c2).mono ?_
      rintro e w' ⟨rfl, rfl⟩
      go_wp2
      exact hR
    by_cases hi1 : (d.sec.length : Int) ≤ i
    · have e : d.pre i ch = (d, 2) := by simp [DM.pre, hd, hi0, hi1]
      have hR := HS.out (by rw [e]; simp) w (by rw [e]; exact h) (Off.refl _ _) rfl
      rw [e] at hR
      clear HS HG h
      go_enter Try.func36, Try.ntmps36
      go_wp2_with fail
      refine (off_any _ false _ c2).mono ?_
      rintro e w' ⟨rfl, rfl⟩
      go_wp2
      exact hR
    have hi2 : 0 ≤ i := by omega
    have hi3 : i < (d.sec.length : Int) := by omega
    have c5 : w.cell? ⟨g, 5, none⟩ = some (.bool d.fs) := h.row.cell 5
    have c6 : w.cell? ⟨g, 6, none⟩ = some (.int .i64 d.fl) := h.row.cell 6
    have f5 := h.row.frozen 5
    have f6 := h.row.frozen 6
    by_cases hf0 : d.fs = true ∧ d.fl = 0
    · have e : d.pre i ch = ({ d with fs := false, fl := 0 }, 8) := by simp [DM.pre, hd, hi0, hi1, hf0]
      have hdk : DskAt ((w.setCell ⟨g, 5, none⟩ (.bool false)).setCell ⟨g, 6, none⟩ (.int .i64 0)) F g gs A c { d with fs := false, fl := 0 } :=
        (h.store (i := 5) (v := .bool false) (d' := { d with fs := false }) rfl rfl rfl ⟨h.good.pos, h.good.most, h.good.sec, h.good.pend, h.good.left⟩).store (i := 6) (v := .int .i64 0) rfl rfl rfl
          ⟨h.good.pos, h.good.most, h.good.sec, h.good.pend, h.good.left.1, h.good.left.2.1, by simp, by simp⟩
      have hR := HS.out (by rw [e]; simp) _ (by rw [e]; exact hdk) (((Off.refl F w).setCell (.inl h.fg) _).setCell (.inl h.fg) _) (by simp [World.setCell])
      rw [e] at hR
      rw [hf0.1] at c5
      rw [hf0.2] at c6
      have HR := Lib.hid hR
      clear HS HG h hdk hR e hf0
      go_enter Try.func36, Try.ntmps36
      go_wp2_with fail
      refine (off_any _ false _ c2).mono ?_
      rintro e w' ⟨rfl, rfl⟩
      go_wp2_with fail
      refine (over_zero _ _ _ c5 c6).mono ?_
      rintro e w' ⟨rfl, rfl⟩
      go_wp2
      exact HR.out
    -- behind the failing one's count
    obtain ⟨d1, hd1⟩ : ∃ d1 : DM, d1 = { d with fl := if d.fs = true then d.fl - 1 else d.fl } := ⟨_, rfl⟩
    have hpre : d.pre i ch = if ch = true ∧ d1.ps = true ∧ d1.pl = 0 then ({ d1 with dead := true }, 9) else ({ d1 with pl := if ch = true ∧ d1.ps = true then d1.pl - 1 else d1.pl }, 0) := by
      unfold DM.pre
      rw [if_neg (by simp [hd]), if_neg hi0, if_neg hi1, if_neg hf0, hd1]
    have HP := Lib.hid hpre
    have hd1d : d1.dead = false := by rw [hd1]; exact hd
    have hstep : ∃ w1, DskAt w1 F g gs A c d1 ∧ Off F w w1 ∧ w1.heap.size = w.heap.size ∧ Calls Try.prog 48 #[.pointer (some ⟨g, 5, none⟩)] w fun e w' => e = .returned (.bool false) ∧ w' = w1 := by
      cases hfs : d.fs with
      | false =>
        have e1 : d1 = d := by rw [hd1, hfs]; cases d; simp_all
        exact ⟨w, by rw [e1]; exact h, Off.refl _ _, rfl, over_off g 5 w (by rw [c5, hfs])⟩
      | true =>
        have hl0 : ¬ d.fl = 0 := fun hz => hf0 ⟨hfs, hz⟩
        have hl := h.good.left
        have e1 : d1 = { d with fl := d.fl - 1 } := by rw [hd1, hfs]; simp
        refine ⟨w.setCell ⟨g, 6, none⟩ (.int .i64 (d.fl - 1)), ?_, (Off.refl F w).setCell (.inl h.fg) _, by simp [World.setCell], over_on g 5 d.fl w (by rw [c5, hfs]) c6 f6 (by omega) hl.2.2.2⟩
        rw [e1]
        exact h.store (i := 6) rfl rfl rfl ⟨h.good.pos, h.good.most, h.good.sec, h.good.pend, h.good.left.1, h.good.left.2.1, by show 0 ≤ d.fl - 1; omega, by show d.fl - 1 < _; omega⟩
    obtain ⟨w1, h1, ho1, hs1, hov⟩ := hstep
    have c3 : w1.cell? ⟨g, 3, none⟩ = some (.bool d1.ps) := h1.row.cell 3
    have c4 : w1.cell? ⟨g, 4, none⟩ = some (.int .i64 d1.pl) := h1.row.cell 4
    have c2' : w1.cell? ⟨g, 2, none⟩ = some (.bool d1.dead) := h1.row.cell 2
    have g4 := h1.row.frozen 4
    have g2 := h1.row.frozen 2
    have HOV := Lib.hid hov
    clear hov hpre hf0 f5 f6 c5 c6
    by_cases hp0 : ch = true ∧ d1.ps = true ∧ d1.pl = 0
    · have e : d.pre i ch = ({ d1 with dead := true }, 9) := by rw [HP.out, if_pos hp0]
      have hdk : DskAt (w1.setCell ⟨g, 2, none⟩ (.bool true)) F g gs A c { d1 with dead := true } := h1.store (i := 2) rfl rfl rfl ⟨h1.good.pos, h1.good.most, h1.good.sec, h1.good.pend, h1.good.left⟩
      have hR := HS.out (by rw [e]; simp) _ (by rw [e]; exact hdk) (ho1.setCell (.inl h1.fg) _) (by simp [World.setCell, hs1])
      rw [e] at hR
      rw [hp0.2.1] at c3
      rw [hp0.2.2] at c4
      obtain rfl := hp0.1
      have HR := Lib.hid hR
      clear HS HG h hdk hR e hp0 HP
      go_enter Try.func36, Try.ntmps36
      go_wp2_with fail
      refine (off_any _ false _ c2).mono ?_
      rintro e w' ⟨rfl, rfl⟩
      go_wp2_with fail
      refine HOV.out.mono ?_
      rintro e w' ⟨rfl, rfl⟩
      go_wp2_with fail
      refine (over_zero _ _ _ c3 c4).mono ?_
      rintro e w' ⟨rfl, rfl⟩
      go_wp2
      exact HR.out
    obtain ⟨d2, hd2⟩ : ∃ d2 : DM, d2 = { d1 with pl := if ch = true ∧ d1.ps = true then d1.pl - 1 else d1.pl } := ⟨_, rfl⟩
    have e : d.pre i ch = (d2, 0) := by rw [HP.out, if_neg hp0, hd2]
    -- behind the power's count
    have hgo2 : ∀ w2, DskAt w2 F g gs A c d2 → Off F w w2 → w2.heap.size = w.heap.size → Calls Try.prog k caps w2 fun e w2 => e = .returned (.tuple #[]) ∧
      ∃ o, w2.cell? ⟨g, 7, none⟩ = some (.int .i64 o) ∧ w2.frozen? ⟨g, 7, none⟩ = false ∧ R (.returned (.int .i64 0)) (w2.setCell ⟨g, 7, none⟩ (.int .i64 (wrap64 (o + 1)))) := fun w2 q1 q2 q3 => HG.out (by rw [e]) hi2 hi3 w2 (by rw [e]; exact q1) q2 q3
    have HG2 := Lib.hid hgo2
    clear HS HG HP hgo2 e
    cases ch with
    | false =>
      have e1 : d2 = d1 := by rw [hd2]; simp
      subst e1
      have hc := HG2.out _ h1 ho1 hs1
      have HC := Lib.hid hc
      clear HG2 hc hd2 hp0 hd1
      go_enter Try.func36, Try.ntmps36
      go_wp2_with fail
      refine (off_any _ false _ c2).mono ?_
      rintro e w' ⟨rfl, rfl⟩
      go_wp2_with fail
      refine HOV.out.mono ?_
      rintro e w' ⟨rfl, rfl⟩
      go_wp2_with fail
      rw [HK.out, Oper.upon_enter]
      refine HC.out.mono ?_
      rintro e w3 ⟨rfl, o, c7, f7, hR⟩
      have HR := Lib.hid hR
      clear HC hR
      go_wp2
      exact HR.out
    | true =>
      cases hps : d1.ps with
      | false =>
        have e1 : d2 = d1 := by rw [hd2, hps]; cases d1; simp_all
        subst e1
        have hc := HG2.out _ h1 ho1 hs1
        have HC := Lib.hid hc
        rw [hps] at c3
        clear HG2 hc hd2 hp0 hd1 hps
        go_enter Try.func36, Try.ntmps36
        go_wp2_with fail
        refine (off_any _ false _ c2).mono ?_
        rintro e w' ⟨rfl, rfl⟩
        go_wp2_with fail
        refine HOV.out.mono ?_
        rintro e w' ⟨rfl, rfl⟩
        go_wp2_with fail
        refine (over_off _ _ _ c3).mono ?_
        rintro e w' ⟨rfl, rfl⟩
        go_wp2_with fail
        rw [HK.out, Oper.upon_enter]
        refine HC.out.mono ?_
        rintro e w3 ⟨rfl, o, c7, f7, hR⟩
        have HR := Lib.hid hR
        clear HC hR
        go_wp2
        exact HR.out
      | true =>
        have hl := h1.good.left
        have hl0 : ¬ d1.pl = 0 := fun hz => hp0 ⟨rfl, hps, hz⟩
        have e1 : d2 = { d1 with pl := d1.pl - 1 } := by rw [hd2, hps]; simp
        have h2 : DskAt (w1.setCell ⟨g, 4, none⟩ (.int .i64 (d1.pl - 1))) F g gs A c d2 := by
          rw [e1]
          exact h1.store (i := 4) rfl rfl rfl ⟨h1.good.pos, h1.good.most, h1.good.sec, h1.good.pend, by show 0 ≤ d1.pl - 1; omega, by show d1.pl - 1 < _; omega, h1.good.left.2.2.1, h1.good.left.2.2.2⟩
        have hc := HG2.out _ h2 (ho1.setCell (.inl h1.fg) _) (by simp [World.setCell, hs1])
        have HC := Lib.hid hc
        rw [hps] at c3
        have hl1 : 0 < d1.pl := by omega
        have hl2 := hl.2.1
        clear HG2 hc hd2 hp0 hd1 hps e1 h2
        go_enter Try.func36, Try.ntmps36
        go_wp2_with fail
        refine (off_any _ false _ c2).mono ?_
        rintro e w' ⟨rfl, rfl⟩
        go_wp2_with fail
        refine HOV.out.mono ?_
        rintro e w' ⟨rfl, rfl⟩
        go_wp2_with fail
        refine (over_on _ _ _ _ c3 c4 g4 hl1 hl2).mono ?_
        rintro e w' ⟨rfl, rfl⟩
        go_wp2_with fail
        rw [HK.out, Oper.upon_enter]
        refine HC.out.mono ?_
        rintro e w3 ⟨rfl, o, c7, f7, hR⟩
        have HR := Lib.hid hR
        clear HC hR
        go_wp2
        exact HR.out
end Go.Proofs.Ytbfpadilcfelbaa.Dsk
