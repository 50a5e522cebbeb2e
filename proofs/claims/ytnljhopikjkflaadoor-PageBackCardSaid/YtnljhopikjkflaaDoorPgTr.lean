/-
  bytes.Trim with a nought: what is left of noughts alone is nothing.
-/
import Derived.Test.YtnljhopikjkflaaDoorPgW
import Derived.Deep.Cut
import Derived.Deep.CutRange
namespace Go.Proofs.YtnljhopikjkflaaDoor.Pg
set_option maxRecDepth 100000
open Go.RowKit Go.Proofs.YtnljhopikjkflaaDoor.Wd Go.Proofs.YtnljhopikjkflaaDoor.Oct Go.Proofs.YtnljhopikjkflaaDoor.Dsk Go.Proofs.YtnljhopikjkflaaDoor.Rec

def lenS : Value → Nat | .slice _ n _ => n | _ => 0
def TrimR (w : World) (A : Option Addr) (n c : Nat) (l : List UInt8) (e : Ending) (w' : World) : Prop := ∃ m, e = .returned (.slice A m c) ∧ m ≤ n ∧ (l.all (· == 0) = true → m = 0) ∧ w = w'
def TrimL (w : World) (n : Nat) (e : Ending) (w' : World) : Prop := ∃ A' m c', e = .returned (.slice A' m c') ∧ (n = 0 → m = 0) ∧ w = w'
def TrimB (w : World) (l : List UInt8) (e : Ending) (w' : World) : Prop := ∃ A' m c', e = .returned (.slice A' m c') ∧ (l.all (· == 0) = true → m = 0) ∧ Still w w'
theorem right_trim (A : Option Addr) (n c : Nat) (l : List UInt8) (B : Nat) (w : World) (hl : l.length = n) (hnc : n ≤ c) (hm : c ≤ 140737488351232) (hb : Bs w B A l) :
    Calls Tryd.prog 25 #[.slice A n c, .int .u8 0] w (TrimR w A n c l) := by
  have HL := Lib.hid hl
  clear hl
  go_enter Tryd.func25, Tryd.ntmps25
  go_wp2
  go_loop [0] (fun t => ∃ m : Nat, m ≤ n ∧ t = .slice A m c) (fun t => lenS t)
  case atStart => exact ⟨n, Nat.le_refl _, rfl⟩
  case round =>
    obtain ⟨m, hmn, rfl⟩ := hrel
    have hmc : m ≤ c := by omega
    by_cases h0 : m = 0
    · subst h0
      go_wp2
      go_ret
      exact ⟨0, rfl, by omega, fun _ => rfl, rfl⟩
    obtain ⟨k, rfl⟩ : ∃ k, m = k + 1 := ⟨m - 1, by omega⟩
    obtain ⟨b1, o1, rfl, hb1, hc1⟩ := hb (by rw [HL.out]; omega)
    have hx1 := hc1 k (by rw [HL.out]; omega)
    clear hc1
    generalize hg1 : l.getD k 0 = x1 at hx1
    have HG : Hid (l.getD k 0 = x1) := hg1
    clear hg1
    have hk1 : ((k + 1 : Nat) : Int) - 1 = (k : Int) := by omega
    have hwk : IntKind.i64.wrap (k : Int) = (k : Int) := by simp [IntKind.wrap, IntKind.signed, IntKind.bits]; omega
    have hkp : 0 < ((k + 1 : Nat) : Int) := by omega
    have hkl : (k : Int) < ((k + 1 : Nat) : Int) := by omega
    have hk0 : 0 ≤ (k : Int) := by omega
    have hkc : (k : Int) ≤ (c : Int) := by omega
    by_cases hz : x1 = 0
    · have hxe : ((x1.toNat : Int) == 0) = true := by rw [hz]; rfl
      clear hz
      go_wp2
      go_round
      case rel => exact ⟨k, by omega, rfl⟩
      case measure => simp [lenS]
    · have hxe : ((x1.toNat : Int) == 0) = false := by
        rw [Bool.eq_false_iff]
        intro h
        have h' : x1.toNat = 0 := by simpa using h
        exact hz (UInt8.toNat_inj.1 h')
      have HZ := Lib.hid hz
      clear hz
      go_wp2
      go_ret
      refine ⟨k + 1, rfl, hmn, fun ha => absurd ?_ HZ.out, rfl⟩
      have hk' : k < l.length := by rw [HL.out]; omega
      have := List.all_eq_true.1 ha l[k] (List.getElem_mem hk')
      have hg := HG.out
      rw [List.getD_eq_getElem?_getD, List.getElem?_eq_getElem hk', Option.getD_some] at hg
      rw [← hg]
      simpa using this

theorem left_trim (A : Option Addr) (n c : Nat) (l : List UInt8) (B : Nat) (w : World) (hl : l.length = n) (hnc : n ≤ c) (hm : c ≤ 140737488351232) (hb : Bs w B A l) :
    Calls Tryd.prog 24 #[.slice A n c, .int .u8 0] w (TrimL w n) := by
  have HL := Lib.hid hl
  have HB := Lib.hid hb
  clear hl hb
  go_enter Tryd.func24, Tryd.ntmps24
  go_wp2
  go_loop [0] (fun t => ∃ (A' : Option Addr) (m c' : Nat), m ≤ n ∧ m ≤ c' ∧ c' ≤ c ∧ t = .slice A' m c' ∧ Hid (∃ l', l'.length = m ∧ Bs w B A' l')) (fun t => lenS t)
  case atStart => exact ⟨A, n, c, Nat.le_refl _, hnc, Nat.le_refl _, rfl, ⟨l, HL.out, HB.out⟩⟩
  case round =>
    obtain ⟨A', m, c', hmn, hmc, hcc, rfl, HI⟩ := hrel
    by_cases h0 : m = 0
    · subst h0
      go_wp2
      go_ret
      exact ⟨none, 0, 0, rfl, fun _ => rfl, rfl⟩
    obtain ⟨k, rfl⟩ : ∃ k, m = k + 1 := ⟨m - 1, by omega⟩
    obtain ⟨l', hl', hb'⟩ := HI.out
    obtain ⟨b1, o1, rfl, hb1, hc1⟩ := hb' (by rw [hl']; omega)
    have hx1 := hc1 0 (by rw [hl']; omega)
    rw [Nat.add_zero] at hx1
    have HK : Hid (∃ l2, l2.length = k ∧ Bs w B (if c' = 1 then some ⟨b1, o1, none⟩ else some ⟨b1, o1 + 1, none⟩) l2) := by
      refine ⟨(l'.drop 1).take k, by rw [List.length_take, List.length_drop]; omega, ?_⟩
      by_cases hc1 : c' = 1
      · obtain rfl : k = 0 := by omega
        rw [List.take_zero]
        exact Bs.nil _ _ _
      · rw [if_neg hc1]
        have := Bs.cut hb' 1 k (by omega)
        simpa [Addr.add_lit] using this
    clear hc1 hb' hl' HI HB
    generalize l'.getD 0 0 = x1 at hx1
    have hkp : 0 < ((k + 1 : Nat) : Int) := by omega
    have h1k : (1 : Int) ≤ ((k + 1 : Nat) : Int) := by omega
    have hkc : 1 ≤ (c' : Int) := by omega
    have hk1 : k + 1 - 1 = k := by omega
    by_cases hz : x1 = 0
    · have hxe : ((x1.toNat : Int) == 0) = true := by rw [hz]; rfl
      clear hz
      go_wp2
      go_round
      case rel => exact ⟨_, k, c' - 1, by omega, by omega, by omega, rfl, HK⟩
      case measure => simp [lenS]
    · have hxe : ((x1.toNat : Int) == 0) = false := by
        rw [Bool.eq_false_iff]
        intro h
        have h' : x1.toNat = 0 := by simpa using h
        exact hz (UInt8.toNat_inj.1 h')
      have HZ := Lib.hid hz
      clear hz
      go_wp2
      go_ret
      exact ⟨_, k + 1, c', rfl, fun h => by omega, rfl⟩
theorem bs_pre {w : World} {B : Nat} {A : Option Addr} {l : List UInt8} (h : Bs w B A l) (k : Nat) : Bs w B A (l.take k) := fun hp => by
  obtain ⟨b, o, e, hb, hc⟩ := h (by simp only [List.length_take] at hp; omega)
  refine ⟨b, o, e, hb, fun i hi => ?_⟩
  simp only [List.length_take] at hi
  rw [hc i (by omega)]
  simp only [List.getD_eq_getElem?_getD, List.getElem?_take]
  rw [if_pos (by omega)]
theorem trim_any (A : Option Addr) (n c : Nat) (l : List UInt8) (B : Nat) (w : World) (hl : l.length = n) (h0 : 0 < n) (hnc : n ≤ c) (hm : c ≤ 140737488351232) (hb : Bs w B A l) :
    Calls Tryd.prog 11 #[.slice A n c, .string ⟨#[0]⟩] w (TrimB w l) := by
  have HL := Lib.hid hl
  have HR : Hid (∀ W, Still w W → Calls Tryd.prog 25 #[.slice A n c, .int .u8 0] W (TrimR W A n c l)) := (show ∀ W, _ → _ from fun W hW => by obtain ⟨k, rfl⟩ := hW; exact right_trim A n c l B _ HL.out hnc hm (hb.drewN k))
  have hb2 := Lib.hid hb
  clear hl hb
  have hn : ((n : Int) == 0) = false := by simp; omega
  go_enter Tryd.func11, Tryd.ntmps11
  have e0 : (((⟨#[0]⟩ : ByteArray)[0]'(by decide)).toNat : Int) = 0 := rfl
  go_upto_region 6 with fail
  refine wp_region_held_drew (S := fun w' => Still w w') (by kernel_rfl) (Still.refl w).drew (fun hHeld => ?_)
  have S0 := Lib.hid hHeld
  clear hHeld
  generalize w.drew = w1 at S0 ⊢
  refine wpAnyH_take (i := 0) (oi := ⟨some 21, _, _, _, _, _⟩) (v := ?vt1) rfl (by kernel_rfl) (by kernel_rfl) (by kernel_rfl) (fun _ _ _ h => h) (Or.inl ⟨by rfl, ?yt1⟩) S0.out ?rt1
  case yt1 =>
    rintro w' hSw
    go_simp
    try with_reducible rfl
  try simp only [Act.put, List.setIfInBounds_toArray, List.set_cons_zero, List.set_cons_succ]
  refine wpAnyH_take (i := 1) (oi := ⟨some 22, _, _, _, _, _⟩) (v := ?vt2) rfl (by kernel_rfl) (by kernel_rfl) (by kernel_rfl) (fun _ _ _ h => h) (Or.inl ⟨by rfl, ?yt2⟩) S0.out ?rt2
  case yt2 =>
    rintro w' hSw
    go_simp
    try with_reducible rfl
  try simp only [Act.put, List.setIfInBounds_toArray, List.set_cons_zero, List.set_cons_succ]
  refine wpAnyH_take (i := 2) (oi := ⟨some 23, _, _, _, _, _⟩) (v := ?vt3) rfl (by kernel_rfl) (by kernel_rfl) (by kernel_rfl) (fun _ _ _ h => h) (Or.inl ⟨by rfl, ?yt3⟩) S0.out ?rt3
  case yt3 =>
    rintro w' hSw
    go_simp
    try with_reducible rfl
  try simp only [Act.put, List.setIfInBounds_toArray, List.set_cons_zero, List.set_cons_succ]
  refine wpAnyH_take (i := 4) (oi := ⟨some 25, _, _, _, _, _⟩) (v := ?vt4) rfl (by kernel_rfl) (by kernel_rfl) (by kernel_rfl) (fun _ _ _ h => h) (Or.inl ⟨by rfl, ?yt4⟩) S0.out ?rt4
  case yt4 =>
    rintro w' hSw
    go_simp
    try with_reducible rfl
  try simp only [Act.put, List.setIfInBounds_toArray, List.set_cons_zero, List.set_cons_succ]
  refine wpAnyH_take (i := 5) (oi := ⟨some 26, _, _, _, _, _⟩) (v := ?vt5) rfl (by kernel_rfl) (by kernel_rfl) (by kernel_rfl) (fun _ _ _ h => h) (Or.inl ⟨by rfl, ?yt5⟩) S0.out ?rt5
  case yt5 =>
    rintro w' hSw
    go_simp
    try with_reducible rfl
  try simp only [Act.put, List.setIfInBounds_toArray, List.set_cons_zero, List.set_cons_succ]
  refine wpAnyH_ready (rs := [3]) (by kernel_rfl) (by simp) ?_
  refine (AllReadyH.cons rfl (fun K hK => ?_) AllReadyH.nil)
  go_simp
  refine (HR.out _ S0.out).mono ?_
  rintro e w2 ⟨m, rfl, hmn, hma, rfl⟩
  have HMA := Lib.hid hma
  have HL2 := Lib.hid (left_trim A m c (l.take m) B w1 (by rw [List.length_take, HL.out]; omega) (by omega) hm (by obtain ⟨k, rfl⟩ := S0.out; exact (bs_pre hb2.out m).drewN k))
  clear hma
  refine hK _ _ S0.out (fun _ => ?_)
  clear hK K
  try simp only [Act.put, List.setIfInBounds_toArray, List.set_cons_zero, List.set_cons_succ]
  refine wpAnyH_ready (rs := [6]) (by kernel_rfl) (by simp) ?_
  refine (AllReadyH.cons rfl (fun K hK => ?_) AllReadyH.nil)
  go_simp
  refine HL2.out.mono ?_
  rintro e w3 ⟨A', k, c', rfl, hk, rfl⟩
  have HK := Lib.hid hk
  clear hk HL2
  refine hK _ _ S0.out (fun _ => ?_)
  clear hK K
  try simp only [Act.put, List.setIfInBounds_toArray, List.set_cons_zero, List.set_cons_succ]
  refine wpAnyH_take (i := 7) (oi := ⟨some 4, _, _, _, _, _⟩) (v := ?vt8) rfl (by kernel_rfl) (by kernel_rfl) (by kernel_rfl) (fun _ _ _ h => h) (Or.inl ⟨by rfl, ?yt8⟩) S0.out ?rt8
  case yt8 =>
    rintro w' hSw
    go_simp
    try with_reducible rfl
  try simp only [Act.put, List.setIfInBounds_toArray, List.set_cons_zero, List.set_cons_succ]
  refine wpAnyH_done (by kernel_rfl) ?_ _
  go_wp2
  go_ret
  exact ⟨A', k, c', rfl, fun ha => HK.out (HMA.out ha), S0.out⟩
end Go.Proofs.YtnljhopikjkflaaDoor.Pg
