/-
  Part 7 of the contracts that the law rests on.
-/
import Derived.Test.YtchagomphpfimaaCf6
/-
  Append and Checkpoint, where they refuse and where they do; logs on new disks.
-/
namespace Go.Proofs.Ytchagomphpfimaa.Wl
set_option maxRecDepth 100000
open Go.RowKit Go.Shelf Go.Proofs.Ytchagomphpfimaa.Wd Go.Proofs.Ytchagomphpfimaa.Dsk Go.Proofs.Ytchagomphpfimaa.Oct Go.Proofs.Ytchagomphpfimaa.Sum Go.Proofs.Ytchagomphpfimaa.Beq

theorem append_stop (g dg area t : Nat) (fs : List (List UInt8)) (br : Bool) (A2 : Option Addr) (m c2 : Nat) (G : Nat → Prop) (w : World) (hlog : Log w G g dg area t fs br) (h : 40000 < m ∨ br = true) :
    Calls Try.prog 16 #[.pointer (some ⟨g, 0, none⟩), .slice A2 m c2] w fun e w' => e = .returned (.int .i64 (if 40000 < m then 3 else 8)) ∧ Below w.heap.size w w' := by
  obtain ⟨A, c, xs, hrw, _⟩ := hlog
  have HR := Lib.hid (refuses_any g dg area t (usedM fs) fs.length c A br A2 m c2 w hrw)
  clear hrw
  by_cases hm : 40000 < m
  · rw [if_pos hm] at HR ⊢
    clear h hm
    go_enter Try.func16, Try.ntmps16
    go_wp2_with fail
    refine HR.out.mono ?_
    rintro e w1 ⟨rfl, rfl⟩
    go_wp2
    go_ret
    exact ⟨rfl, Below.refl _ _⟩
  · have hb : br = true := h.resolve_left hm
    rw [if_neg hm, hb, if_pos rfl] at HR
    rw [if_neg hm]
    clear h hm hb
    go_enter Try.func16, Try.ntmps16
    go_wp2_with fail
    refine HR.out.mono ?_
    rintro e w1 ⟨rfl, rfl⟩
    go_wp2
    go_ret
    exact ⟨rfl, Below.refl _ _⟩
theorem append_full (g dg area t : Nat) (fs : List (List UInt8)) (A2 : Option Addr) (m c2 : Nat) (G : Nat → Prop) (w : World) (hlog : Log w G g dg area t fs false) (hm : m ≤ 40000) (ha : area ≤ 1000) (hu : usedM fs ≤ area) (hroom : area - usedM fs < sects m) :
    Calls Try.prog 16 #[.pointer (some ⟨g, 0, none⟩), .slice A2 m c2] w fun e w' => e = .returned (.int .i64 6) ∧ Below w.heap.size w w' := by
  obtain ⟨A, c, xs, hrw, _⟩ := hlog
  have HR := Lib.hid (refuses_any g dg area t (usedM fs) fs.length c A false A2 m c2 w hrw)
  rw [if_neg (by omega), if_neg (by simp)] at HR
  have HSE := Lib.hid (sectors_any m w hm)
  have HLF := Lib.hid (left_any g dg area t fs.length c (usedM fs) A false w hrw ha hu)
  obtain ⟨s, hs⟩ : ∃ s, sects m = s := ⟨_, rfl⟩
  obtain ⟨f, hf⟩ : ∃ f, area - usedM fs = f := ⟨_, rfl⟩
  rw [hs] at HSE hroom
  rw [hf] at HLF hroom
  have hrm : (f : Int) < (s : Int) := by omega
  clear hrw hs hf hroom
  go_enter Try.func16, Try.ntmps16
  go_wp2_with fail
  refine HR.out.mono ?_
  rintro e w1 ⟨rfl, rfl⟩
  go_wp2_with fail
  refine HSE.out.mono ?_
  rintro e w1 ⟨rfl, rfl⟩
  go_wp2_with fail
  refine HLF.out.mono ?_
  rintro e w1 ⟨rfl, rfl⟩
  go_wp2
  go_ret
  exact ⟨rfl, (Below.refl _ _).drew⟩
theorem check_stop (g dg area t : Nat) (fs : List (List UInt8)) (br : Bool) (A2 : Option Addr) (m c2 : Nat) (G : Nat → Prop) (w : World) (hlog : Log w G g dg area t fs br) (h : 40000 < m ∨ br = true) :
    Calls Try.prog 17 #[.pointer (some ⟨g, 0, none⟩), .slice A2 m c2] w fun e w' => e = .returned (.int .i64 (if 40000 < m then 3 else 8)) ∧ Below w.heap.size w w' := by
  obtain ⟨A, c, xs, hrw, _⟩ := hlog
  have HR := Lib.hid (refuses_any g dg area t (usedM fs) fs.length c A br A2 m c2 w hrw)
  clear hrw
  by_cases hm : 40000 < m
  · rw [if_pos hm] at HR ⊢
    clear h hm
    go_enter Try.func17, Try.ntmps17
    go_wp2_with fail
    refine HR.out.mono ?_
    rintro e w1 ⟨rfl, rfl⟩
    go_wp2
    go_ret
    exact ⟨rfl, Below.refl _ _⟩
  · have hb : br = true := h.resolve_left hm
    rw [if_neg hm, hb, if_pos rfl] at HR
    rw [if_neg hm]
    clear h hm hb
    go_enter Try.func17, Try.ntmps17
    go_wp2_with fail
    refine HR.out.mono ?_
    rintro e w1 ⟨rfl, rfl⟩
    go_wp2
    go_ret
    exact ⟨rfl, Below.refl _ _⟩
/-- what a Checkpoint leaves -/
def CkZ (w w' : World) (F G : Nat → Prop) (g dg area t t2 : Nat) (fs : List (List UInt8)) (b : List UInt8) (Z : DM × Int) : Prop :=
  ∃ F' G', Dk w' F' dg Z.1 ∧ Ext F F' w w' ∧ Ext G G' w w' ∧ Off (fun k => F k ∨ G k) w w' ∧
    Log w' G' g dg area (if Z.2 = 0 then t2 else t) (if Z.2 = 0 then [b] else fs) (decide (Z.2 ≠ 0))
theorem tight {w : World} {G : Nat → Prop} {g dg area t : Nat} {fs : List (List UInt8)} {br : Bool} (h : Log w G g dg area t fs br) : Log w (fun k => G k ∧ k < w.heap.size) g dg area t fs br := by
  obtain ⟨A, c, xs, h1, h2, h3, h4, h5⟩ := h
  exact ⟨A, c, xs, h1, h2, ⟨h3, h1.lt⟩, fun k hkb => ⟨h4 k hkb, own_lt h2 hkb⟩, fun i hi => by
    obtain ⟨Ai, ni, ci, q1, q2, q3, q4⟩ := h5 i hi
    exact ⟨Ai, ni, ci, q1, q2, q3, fun k hkb => ⟨q4 k hkb, own_lt q2 hkb⟩⟩⟩
set_option maxHeartbeats 8000000 in
theorem check_full (g dg area t : Nat) (fs : List (List UInt8)) (A2 : Option Addr) (m c2 : Nat) (G : Nat → Prop) (w : World) (hlog : Log w G g dg area t fs false) (hm : m ≤ 40000) (hroom : area < sects m) :
    Calls Try.prog 17 #[.pointer (some ⟨g, 0, none⟩), .slice A2 m c2] w fun e w' => e = .returned (.int .i64 6) ∧ Below w.heap.size w w' := by
  have mixed : Try.prog.follows .mixedOrders = true := by kernel_rfl
  obtain ⟨A, c, xs, hrw, _⟩ := hlog
  have HR := Lib.hid (refuses_any g dg area t (usedM fs) fs.length c A false A2 m c2 w hrw)
  rw [if_neg (by omega), if_neg (by simp)] at HR
  have HSE := Lib.hid (fun W => sectors_any m W hm)
  obtain ⟨s, hs⟩ : ∃ s, sects m = s := ⟨_, rfl⟩
  rw [hs] at HSE hroom
  have hrm : decide (area < s) = true := by simp only [decide_eq_true_eq]; omega
  have hrm2 : decide ((area : Int) < (s : Int)) = true := by simp only [decide_eq_true_eq]; omega
  have HRW := Lib.hid hrw
  clear hrw hs hroom
  go_enter Try.func17, Try.ntmps17
  go_wp2_with fail
  refine HR.out.mono ?_
  rintro e w1 ⟨rfl, rfl⟩
  go_wp2_with fail
  refine wp_region_held_drew (S := fun W => Row W g 83 (wcs dg area t A fs.length c (usedM fs) false)) (by kernel_rfl) HRW.out (fun hHeld => ?_)
  have S0 := Lib.hid hHeld
  clear hHeld
  refine wpAnyH_take (i := 0) (oi := ⟨some 12, _, _, _, _, _⟩) (v := ?vm1) rfl (by kernel_rfl) (by kernel_rfl) (by kernel_rfl) (fun _ _ _ h => h) (Or.inl ⟨by rfl, ?ym1⟩) S0.out ?rm1
  case ym1 =>
    rintro w' hSw
    go_simp
    try with_reducible rfl
  try simp only [Act.put, List.setIfInBounds_toArray, List.set_cons_zero, List.set_cons_succ]
  refine wpAnyH_take (i := 1) (oi := ⟨some 13, _, _, _, _, _⟩) (v := ?vm2) rfl (by kernel_rfl) (by kernel_rfl) (by kernel_rfl) (fun _ _ _ h => h) (Or.inl ⟨by rfl, ?ym2⟩) S0.out ?rm2
  case ym2 =>
    rintro w' hSw
    go_simp
    try with_reducible rfl
  try simp only [Act.put, List.setIfInBounds_toArray, List.set_cons_zero, List.set_cons_succ]
  refine wpAnyH_take (i := 3) (oi := ⟨some 15, _, _, _, _, _⟩) (v := ?vm3) rfl (by kernel_rfl) (by kernel_rfl) (by kernel_rfl) (fun _ _ _ h => h) (Or.inl ⟨by rfl, ?ym3⟩) S0.out ?rm3
  case ym3 =>
    rintro w' hSw
    go_simp
    try with_reducible rfl
  try simp only [Act.put, List.setIfInBounds_toArray, List.set_cons_zero, List.set_cons_succ]
  refine wpAnyH_take (i := 4) (oi := ⟨some 16, _, _, _, _, _⟩) (v := ?vm4) rfl (by kernel_rfl) (by kernel_rfl) (by kernel_rfl) (fun _ _ _ h => h) (Or.inl ⟨by rfl, ?ym4⟩) S0.out ?rm4
  case ym4 =>
    rintro w' hSw
    go_simp
    try with_reducible rfl
  try simp only [Act.put, List.setIfInBounds_toArray, List.set_cons_zero, List.set_cons_succ]
  refine wpAnyH_take (i := 5) (oi := ⟨some 17, _, _, _, _, _⟩) (v := ?vm5) rfl (by kernel_rfl) (by kernel_rfl) (by kernel_rfl) (fun _ _ _ h => h) (Or.inl ⟨by rfl, ?ym5⟩) S0.out ?rm5
  case ym5 =>
    rintro w' hSw
    go_simp
    try with_reducible rfl
  try simp only [Act.put, List.setIfInBounds_toArray, List.set_cons_zero, List.set_cons_succ]
  refine wpAnyH_take (i := 6) (oi := ⟨some 18, _, _, _, _, _⟩) (v := ?vm6) rfl (by kernel_rfl) (by kernel_rfl) (by kernel_rfl) (fun _ _ _ h => h) (Or.inl ⟨by rfl, ?ym6⟩) S0.out ?rm6
  case ym6 =>
    rintro w' hSw
    have c1 : w'.cell? ⟨g, 1, none⟩ = some (.int .i64 (area : Int)) := hSw.cell 1
    go_simp
    try with_reducible rfl
  try simp only [Act.put, List.setIfInBounds_toArray, List.set_cons_zero, List.set_cons_succ]
  refine wpAnyH_ready (rs := [2]) (by kernel_rfl) (by simp) ?_
  refine (AllReadyH.cons rfl (fun K hK => ?_) AllReadyH.nil)
  go_simp
  refine (HSE.out w.drew).mono ?_
  rintro e wx ⟨rfl, rfl⟩
  refine hK _ _ S0.out (fun _ => ?_)
  clear hK K
  try simp only [Act.put, List.setIfInBounds_toArray, List.set_cons_zero, List.set_cons_succ]
  refine wpAnyH_take (i := 7) (oi := ⟨some 19, _, _, _, _, _⟩) (v := ?vm8) rfl (by kernel_rfl) (by kernel_rfl) (by kernel_rfl) (fun _ _ _ h => h) (Or.inl ⟨by rfl, ?ym8⟩) S0.out ?rm8
  case ym8 =>
    rintro w' hSw
    go_simp
    try with_reducible rfl
  try simp only [Act.put, List.setIfInBounds_toArray, List.set_cons_zero, List.set_cons_succ]
  refine wpAnyH_take (i := 8) (oi := ⟨some 20, _, _, _, _, _⟩) (v := ?vm9) rfl (by kernel_rfl) (by kernel_rfl) (by kernel_rfl) (fun _ _ _ h => h) (Or.inl ⟨by rfl, ?ym9⟩) S0.out ?rm9
  case ym9 =>
    rintro w' hSw
    go_simp
    try with_reducible rfl
  try simp only [Act.put, List.setIfInBounds_toArray, List.set_cons_zero, List.set_cons_succ]
  refine wpAnyH_take (i := 9) (oi := ⟨some 21, _, _, _, _, _⟩) (v := undef) rfl (by kernel_rfl) (by kernel_rfl) (by kernel_rfl) (fun _ _ _ h => h) (Or.inr ⟨by rfl, rfl⟩) S0.out ?rm10
  try simp only [Act.put, List.setIfInBounds_toArray, List.set_cons_zero, List.set_cons_succ]
  refine wpAnyH_take (i := 10) (oi := ⟨some 22, _, _, _, _, _⟩) (v := undef) rfl (by kernel_rfl) (by kernel_rfl) (by kernel_rfl) (fun _ _ _ h => h) (Or.inr ⟨by rfl, rfl⟩) S0.out ?rm11
  try simp only [Act.put, List.setIfInBounds_toArray, List.set_cons_zero, List.set_cons_succ]
  refine wpAnyH_take (i := 11) (oi := ⟨some 23, _, _, _, _, _⟩) (v := undef) rfl (by kernel_rfl) (by kernel_rfl) (by kernel_rfl) (fun _ _ _ h => h) (Or.inr ⟨by rfl, rfl⟩) S0.out ?rm12
  try simp only [Act.put, List.setIfInBounds_toArray, List.set_cons_zero, List.set_cons_succ]
  refine wpAnyH_take (i := 12) (oi := ⟨some 24, _, _, _, _, _⟩) (v := undef) rfl (by kernel_rfl) (by kernel_rfl) (by kernel_rfl) (fun _ _ _ h => h) (Or.inr ⟨by rfl, rfl⟩) S0.out ?rm13
  try simp only [Act.put, List.setIfInBounds_toArray, List.set_cons_zero, List.set_cons_succ]
  refine wpAnyH_take (i := 13) (oi := ⟨some 25, _, _, _, _, _⟩) (v := undef) rfl (by kernel_rfl) (by kernel_rfl) (by kernel_rfl) (fun _ _ _ h => h) (Or.inr ⟨by rfl, rfl⟩) S0.out ?rm14
  try simp only [Act.put, List.setIfInBounds_toArray, List.set_cons_zero, List.set_cons_succ]
  refine wpAnyH_take (i := 14) (oi := ⟨some 26, _, _, _, _, _⟩) (v := undef) rfl (by kernel_rfl) (by kernel_rfl) (by kernel_rfl) (fun _ _ _ h => h) (Or.inr ⟨by rfl, rfl⟩) S0.out ?rm15
  try simp only [Act.put, List.setIfInBounds_toArray, List.set_cons_zero, List.set_cons_succ]
  refine wpAnyH_take (i := 15) (oi := ⟨some 27, _, _, _, _, _⟩) (v := ?vm16) rfl (by kernel_rfl) (by kernel_rfl) (by kernel_rfl) (fun _ _ _ h => h) (Or.inl ⟨by rfl, ?ym16⟩) S0.out ?rm16
  case ym16 =>
    rintro w' hSw
    go_simp
    try with_reducible rfl
  try simp only [Act.put, List.setIfInBounds_toArray, List.set_cons_zero, List.set_cons_succ]
  refine wpAnyH_done (by kernel_rfl) ?_ _

  go_wp2
  go_ret
  exact ⟨rfl, (Below.refl _ _).drew⟩
set_option maxHeartbeats 8000000 in
theorem check_ok (g dg area t : Nat) (fs : List (List UInt8)) (A2 : Option Addr) (m c2 : Nat) (b : List UInt8) (d : DM) (F G : Nat → Prop) (w : World)
    (hlog : Log w G g dg area t fs false) (hd : Dk w F dg d) (hs : Sl w w.heap.size A2 m c2 b) (hm : m ≤ 40000) (ha : area ≤ 1000) (ht : t < 4294967295) (hroom : sects m ≤ area) (hp : d.pend.length ≤ 900000) :
    Calls Try.prog 17 #[.pointer (some ⟨g, 0, none⟩), .slice A2 m c2] w fun e w' => e = .returned (.int .i64 (beginM (t + 1) area b d).2) ∧ CkZ w w' F G g dg area t (t + 1) fs b (beginM (t + 1) area b d) := by
  have mixed : Try.prog.follows .mixedOrders = true := by kernel_rfl
  have HLG := Lib.hid hlog
  obtain ⟨A, c, xs, hrw, _⟩ := hlog
  have HR := Lib.hid (refuses_any g dg area t (usedM fs) fs.length c A false A2 m c2 w hrw)
  rw [if_neg (by omega), if_neg (by simp)] at HR
  have HSE := Lib.hid (fun W => sectors_any m W hm)
  obtain ⟨s, hse⟩ : ∃ s, sects m = s := ⟨_, rfl⟩
  rw [hse] at HSE hroom
  have hrm : decide (area < s) = false := by simp only [decide_eq_false_iff_not]; omega
  have hrm2 : decide ((area : Int) < (s : Int)) = false := by simp only [decide_eq_false_iff_not]; omega
  have htm : ¬ (t : Int) = 4294967295 := by omega
  have hwt : IntKind.u32.wrap ((t : Int) + 1) = ((t + 1 : Nat) : Int) := by rw [IntKind.wrap_u32]; omega
  have HRW := Lib.hid hrw
  have HD := Lib.hid hd
  have HS := Lib.hid hs
  obtain ⟨t2, ht2⟩ : ∃ t2, t + 1 = t2 := ⟨_, rfl⟩
  rw [ht2] at hwt
  have HBG := Lib.hid (begin_any g dg area t fs.length c (usedM fs) A false t2 A2 m c2 b d F w.drew (Row.drew hrw) (hd.below ((Below.refl _ _).drew)) ((hs.below ((Below.refl _ _).drew)).more (Nat.le_refl _)) hm ha (by omega) hp)
  have HT2 := Lib.hid ht2
  clear hrw hse hroom hd hs ht2
  rw [HT2.out]
  obtain ⟨Z, hZ⟩ : ∃ Z, beginM t2 area b d = Z := ⟨_, rfl⟩
  rw [hZ] at HBG ⊢
  clear hZ
  go_enter Try.func17, Try.ntmps17
  go_wp2_with fail
  refine HR.out.mono ?_
  rintro e w1 ⟨rfl, rfl⟩
  go_wp2_with fail
  refine wp_region_held_drew (S := fun W => Row W g 83 (wcs dg area t A fs.length c (usedM fs) false)) (by kernel_rfl) HRW.out (fun hHeld => ?_)
  have S0 := Lib.hid hHeld
  clear hHeld
  refine wpAnyH_take (i := 0) (oi := ⟨some 12, _, _, _, _, _⟩) (v := ?vn1) rfl (by kernel_rfl) (by kernel_rfl) (by kernel_rfl) (fun _ _ _ h => h) (Or.inl ⟨by rfl, ?yn1⟩) S0.out ?rn1
  case yn1 =>
    rintro w' hSw
    go_simp
    try with_reducible rfl
  try simp only [Act.put, List.setIfInBounds_toArray, List.set_cons_zero, List.set_cons_succ]
  refine wpAnyH_take (i := 1) (oi := ⟨some 13, _, _, _, _, _⟩) (v := ?vn2) rfl (by kernel_rfl) (by kernel_rfl) (by kernel_rfl) (fun _ _ _ h => h) (Or.inl ⟨by rfl, ?yn2⟩) S0.out ?rn2
  case yn2 =>
    rintro w' hSw
    go_simp
    try with_reducible rfl
  try simp only [Act.put, List.setIfInBounds_toArray, List.set_cons_zero, List.set_cons_succ]
  refine wpAnyH_take (i := 3) (oi := ⟨some 15, _, _, _, _, _⟩) (v := ?vn3) rfl (by kernel_rfl) (by kernel_rfl) (by kernel_rfl) (fun _ _ _ h => h) (Or.inl ⟨by rfl, ?yn3⟩) S0.out ?rn3
  case yn3 =>
    rintro w' hSw
    go_simp
    try with_reducible rfl
  try simp only [Act.put, List.setIfInBounds_toArray, List.set_cons_zero, List.set_cons_succ]
  refine wpAnyH_take (i := 4) (oi := ⟨some 16, _, _, _, _, _⟩) (v := ?vn4) rfl (by kernel_rfl) (by kernel_rfl) (by kernel_rfl) (fun _ _ _ h => h) (Or.inl ⟨by rfl, ?yn4⟩) S0.out ?rn4
  case yn4 =>
    rintro w' hSw
    go_simp
    try with_reducible rfl
  try simp only [Act.put, List.setIfInBounds_toArray, List.set_cons_zero, List.set_cons_succ]
  refine wpAnyH_take (i := 5) (oi := ⟨some 17, _, _, _, _, _⟩) (v := ?vn5) rfl (by kernel_rfl) (by kernel_rfl) (by kernel_rfl) (fun _ _ _ h => h) (Or.inl ⟨by rfl, ?yn5⟩) S0.out ?rn5
  case yn5 =>
    rintro w' hSw
    go_simp
    try with_reducible rfl
  try simp only [Act.put, List.setIfInBounds_toArray, List.set_cons_zero, List.set_cons_succ]
  refine wpAnyH_take (i := 6) (oi := ⟨some 18, _, _, _, _, _⟩) (v := ?vn6) rfl (by kernel_rfl) (by kernel_rfl) (by kernel_rfl) (fun _ _ _ h => h) (Or.inl ⟨by rfl, ?yn6⟩) S0.out ?rn6
  case yn6 =>
    rintro w' hSw
    have c1 : w'.cell? ⟨g, 1, none⟩ = some (.int .i64 (area : Int)) := hSw.cell 1
    go_simp
    try with_reducible rfl
  try simp only [Act.put, List.setIfInBounds_toArray, List.set_cons_zero, List.set_cons_succ]
  refine wpAnyH_ready (rs := [2]) (by kernel_rfl) (by simp) ?_
  refine (AllReadyH.cons rfl (fun K hK => ?_) AllReadyH.nil)
  go_simp
  refine (HSE.out w.drew).mono ?_
  rintro e wx ⟨rfl, rfl⟩
  refine hK _ _ S0.out (fun _ => ?_)
  clear hK K
  try simp only [Act.put, List.setIfInBounds_toArray, List.set_cons_zero, List.set_cons_succ]
  refine wpAnyH_take (i := 7) (oi := ⟨some 19, _, _, _, _, _⟩) (v := ?vn8) rfl (by kernel_rfl) (by kernel_rfl) (by kernel_rfl) (fun _ _ _ h => h) (Or.inl ⟨by rfl, ?yn8⟩) S0.out ?rn8
  case yn8 =>
    rintro w' hSw
    go_simp
    try with_reducible rfl
  try simp only [Act.put, List.setIfInBounds_toArray, List.set_cons_zero, List.set_cons_succ]
  refine wpAnyH_take (i := 8) (oi := ⟨some 20, _, _, _, _, _⟩) (v := ?vn9) rfl (by kernel_rfl) (by kernel_rfl) (by kernel_rfl) (fun _ _ _ h => h) (Or.inl ⟨by rfl, ?yn9⟩) S0.out ?rn9
  case yn9 =>
    rintro w' hSw
    go_simp
    try with_reducible rfl
  try simp only [Act.put, List.setIfInBounds_toArray, List.set_cons_zero, List.set_cons_succ]
  refine wpAnyH_take (i := 9) (oi := ⟨some 21, _, _, _, _, _⟩) (v := ?vn10) rfl (by kernel_rfl) (by kernel_rfl) (by kernel_rfl) (fun _ _ _ h => h) (Or.inl ⟨by rfl, ?yn10⟩) S0.out ?rn10
  case yn10 =>
    rintro w' hSw
    go_simp
    try with_reducible rfl
  try simp only [Act.put, List.setIfInBounds_toArray, List.set_cons_zero, List.set_cons_succ]
  refine wpAnyH_take (i := 10) (oi := ⟨some 22, _, _, _, _, _⟩) (v := ?vn11) rfl (by kernel_rfl) (by kernel_rfl) (by kernel_rfl) (fun _ _ _ h => h) (Or.inl ⟨by rfl, ?yn11⟩) S0.out ?rn11
  case yn11 =>
    rintro w' hSw
    go_simp
    try with_reducible rfl
  try simp only [Act.put, List.setIfInBounds_toArray, List.set_cons_zero, List.set_cons_succ]
  refine wpAnyH_take (i := 11) (oi := ⟨some 23, _, _, _, _, _⟩) (v := ?vn12) rfl (by kernel_rfl) (by kernel_rfl) (by kernel_rfl) (fun _ _ _ h => h) (Or.inl ⟨by rfl, ?yn12⟩) S0.out ?rn12
  case yn12 =>
    rintro w' hSw
    go_simp
    try with_reducible rfl
  try simp only [Act.put, List.setIfInBounds_toArray, List.set_cons_zero, List.set_cons_succ]
  refine wpAnyH_take (i := 12) (oi := ⟨some 24, _, _, _, _, _⟩) (v := ?vn13) rfl (by kernel_rfl) (by kernel_rfl) (by kernel_rfl) (fun _ _ _ h => h) (Or.inl ⟨by rfl, ?yn13⟩) S0.out ?rn13
  case yn13 =>
    rintro w' hSw
    go_simp
    try with_reducible rfl
  try simp only [Act.put, List.setIfInBounds_toArray, List.set_cons_zero, List.set_cons_succ]
  refine wpAnyH_take (i := 13) (oi := ⟨some 25, _, _, _, _, _⟩) (v := ?vn14) rfl (by kernel_rfl) (by kernel_rfl) (by kernel_rfl) (fun _ _ _ h => h) (Or.inl ⟨by rfl, ?yn14⟩) S0.out ?rn14
  case yn14 =>
    rintro w' hSw
    have c2 : w'.cell? ⟨g, 2, none⟩ = some (.int .u32 (t : Int)) := hSw.cell 2
    go_simp
    try with_reducible rfl
  try simp only [Act.put, List.setIfInBounds_toArray, List.set_cons_zero, List.set_cons_succ]
  refine wpAnyH_take (i := 14) (oi := ⟨some 26, _, _, _, _, _⟩) (v := ?vn15) rfl (by kernel_rfl) (by kernel_rfl) (by kernel_rfl) (fun _ _ _ h => h) (Or.inl ⟨by rfl, ?yn15⟩) S0.out ?rn15
  case yn15 =>
    rintro w' hSw
    go_simp
    try with_reducible rfl
  try simp only [Act.put, List.setIfInBounds_toArray, List.set_cons_zero, List.set_cons_succ]
  refine wpAnyH_take (i := 15) (oi := ⟨some 27, _, _, _, _, _⟩) (v := ?vn16) rfl (by kernel_rfl) (by kernel_rfl) (by kernel_rfl) (fun _ _ _ h => h) (Or.inl ⟨by rfl, ?yn16⟩) S0.out ?rn16
  case yn16 =>
    rintro w' hSw
    go_simp
    try with_reducible rfl
  try simp only [Act.put, List.setIfInBounds_toArray, List.set_cons_zero, List.set_cons_succ]
  refine wpAnyH_done (by kernel_rfl) ?_ _

  have c0 : w.drew.cell? ⟨g, 2, none⟩ = some (.int .u32 (t : Int)) := S0.out.cell 2
  go_wp2_with fail
  refine HBG.out.mono ?_
  rintro e w2 ⟨rfl, F', hd2, hx2, ho2, hn2, hz2⟩
  have hlt := HRW.out.lt
  have hG := HLG.out
  have HE : Hid (CkZ w w2 F G g dg area t t2 fs b Z) := Lib.hid (by
    obtain ⟨_, _, _, _, _, hGg, _, _⟩ := id hG
    have ho : Off (fun k => F k ∨ G k) w w2 := ⟨ho2.os, ho2.tape, ho2.output, ho2.size, fun k hk hn => ho2.block k hk (fun h => hn (h.imp id (fun e => by rw [e]; exact hGg)))⟩
    by_cases hz : Z.2 = 0
    · obtain ⟨A', c', Ab, cb, q1, q2, q3, q4, q5⟩ := hz2 hz
      have hbl : b.length = m := HS.out.len
      refine ⟨F', fun k => k = g ∨ (w.heap.size ≤ k ∧ k < w2.heap.size), hd2, hx2, fun k hk => ?_, ho, ?_⟩
      · rcases hk with hk | hk
        · rw [hk]; exact .inl hGg
        · exact .inr hk
      · rw [if_pos hz, if_pos hz, show decide (Z.2 ≠ 0) = false by simp [hz]]
        refine ⟨A', c', [.slice Ab m cb], by rw [show usedM [b] = sects m by rw [← hbl]; simp [usedM]]; exact q1, q2, .inl rfl, fun k hk => .inr ⟨q4 k hk, own_lt q2 hk⟩, fun i hi => ?_⟩
        have hi0 : i = 0 := by simp only [List.length_cons, List.length_nil] at hi; omega
        rw [hi0]
        exact ⟨Ab, m, cb, rfl, q3, hm, fun k hk => .inr ⟨q5 k hk, own_lt q3 hk⟩⟩
    · refine ⟨F', G, hd2, hx2, fun k hk => .inl hk, ho, ?_⟩
      rw [if_neg hz, if_neg hz, show decide (Z.2 ≠ 0) = true by simp [hz]]
      obtain ⟨A', c', xs', r1, r2, r3, r4, r5⟩ := hG
      have hAA : Row w2 g 83 (wcs dg area t A fs.length c (usedM fs) true) := hn2 hz
      have heq := row_cells r1 HRW.out
      simp only [wcs, List.cons.injEq, Value.slice.injEq, and_true, true_and] at heq
      obtain ⟨rfl, rfl⟩ := heq
      have hk : KeepR w w2 := fun k t cs h hr => keepR_off (HD.out.below ((Below.refl _ _).drew)) (Row.drew HRW.out) ho2 k t cs h hr
      exact ⟨A', c', xs', hAA, own_keepR r2 (.inl rfl) hk, r3, r4, fun i hi => by
        obtain ⟨Ai, ni, ci, s1, s2, s3, s4⟩ := r5 i hi
        exact ⟨Ai, ni, ci, s1, own_keepR s2 (.inr rfl) hk, s3, s4⟩⟩)
  clear hd2 hx2 ho2 hn2 hz2 hG hlt
  obtain ⟨z, hz⟩ : ∃ z, Z.2 = z := ⟨_, rfl⟩
  have HZ := Lib.hid hz
  rw [hz]
  clear hz
  go_wp2
  go_ret
  exact ⟨by rw [HZ.out]; rfl, HE.out⟩
end Go.Proofs.Ytchagomphpfimaa.Wl

/-
  Disks on which nothing fails; logs on new ones.
-/
namespace Go.Proofs.Ytchagomphpfimaa.Wl
set_option maxRecDepth 100000
open Go.RowKit Go.Shelf Go.Proofs.Ytchagomphpfimaa.Wd Go.Proofs.Ytchagomphpfimaa.Dsk Go.Proofs.Ytchagomphpfimaa.Oct Go.Proofs.Ytchagomphpfimaa.Sum Go.Proofs.Ytchagomphpfimaa.Beq

def Calm (d : DM) : Prop := d.dead = false ∧ d.ps = false ∧ d.fs = false
theorem pre_calm {d : DM} (h : Calm d) (i : Int) (ch : Bool) : d.pre i ch = (d, if i < 0 ∨ (d.sec.length : Int) ≤ i then 2 else 0) := by
  obtain ⟨h1, h2, h3⟩ := h
  unfold DM.pre
  by_cases a : i < 0
  · simp [h1, a]
  by_cases b : (d.sec.length : Int) ≤ i
  · simp [h1, a, b]
  simp [h1, h2, h3, a, b]
  cases d
  simp_all
theorem calm_read {d : DM} (h : Calm d) (i : Int) : Calm (d.readM i).1 ∧ (0 ≤ i → i < (d.sec.length : Int) → (d.readM i).2.1 = d.sec.getD i.toNat []) := by
  have hp := pre_calm h i false
  unfold DM.readM
  rw [hp]
  constructor
  · split <;> exact h
  · intro h0 h1
    rw [if_pos (by simp; omega)]
theorem calm_write {d : DM} (h : Calm d) (i : Int) (b : List UInt8) : d.writeM i b = if i < 0 ∨ (d.sec.length : Int) ≤ i then (d, 2) else ((d.put i.toNat b).tally, 0) := by
  unfold DM.writeM
  rw [pre_calm h i true]
  by_cases hr : i < 0 ∨ (d.sec.length : Int) ≤ i
  · simp [hr]
  · simp [hr]
theorem calm_sync {d : DM} (h : Calm d) (hp : 0 < d.sec.length) : d.syncM = ({ d with pend := [] }.tally, 0) := by
  unfold DM.syncM
  rw [pre_calm h 0 true]
  have : ¬ ((0 : Int) < 0 ∨ (d.sec.length : Int) ≤ 0) := by omega
  rw [if_neg this]
  exact if_pos rfl

/-- a disk of n sectors on which nothing fails -/
def CalmS (d : DM) (n : Nat) : Prop := Calm d ∧ d.sec.length = n
theorem layW_calm {n : Nat} (f : Int) : ∀ (L : List (Int × List UInt8)) (d : DM), CalmS d n → (∀ p ∈ L, 0 ≤ f + p.1 ∧ f + p.1 < (n : Int)) → (layW L f d).2 = 0 ∧ CalmS (layW L f d).1 n := by
  intro L
  induction L with
  | nil => intro d h _; exact ⟨rfl, h⟩
  | cons p L ih =>
    intro d h hp
    have h1 := hp p (by simp)
    have hw := calm_write h.1 (f + p.1) p.2
    rw [if_neg (by rw [h.2]; omega)] at hw
    have hl : layW (p :: L) f d = if (d.writeM (f + p.1) p.2).2 ≠ 0 then d.writeM (f + p.1) p.2 else layW L f (d.writeM (f + p.1) p.2).1 := rfl
    rw [hl, hw, if_neg (by simp)]
    refine ih _ ⟨h.1, ?_⟩ (fun q hq => hp q (by simp [hq]))
    show (d.sec.set _ _).length = n
    rw [List.length_set]; exact h.2
theorem layM_calm {n : Nat} (hn : 0 < n) (f : Int) (L : List (Int × List UInt8)) (d : DM) (h : CalmS d n) (hp : ∀ p ∈ L, 0 ≤ f + p.1 ∧ f + p.1 < (n : Int)) : (layM L f d).2 = 0 ∧ CalmS (layM L f d).1 n ∧ (layM L f d).1.pend = [] := by
  obtain ⟨h1, h2⟩ := layW_calm f L d h hp
  unfold layM
  rw [if_neg (by rw [h1]; simp)]
  have hs := calm_sync h2.1 (by rw [h2.2]; exact hn)
  rw [hs]
  exact ⟨rfl, ⟨h2.1, h2.2⟩, rfl⟩
theorem pairs_in {t k : Nat} {b : List UInt8} {f n : Nat} (h : f + sects b.length ≤ n) : ∀ p ∈ pairsM t k b, 0 ≤ (f : Int) + p.1 ∧ (f : Int) + p.1 < (n : Int) := by
  intro p hp
  obtain ⟨i, hi, rfl⟩ := List.mem_map.1 hp
  have := List.mem_range.1 hi
  dsimp only
  omega
theorem area_in {t area : Nat} (h : True) : t % 2 * area ≤ area := by
  have h2 : t % 2 ≤ 1 := by omega
  calc t % 2 * area ≤ 1 * area := Nat.mul_le_mul_right _ h2
    _ = area := Nat.one_mul _
theorem begin_calm {t area : Nat} {b : List UInt8} {d : DM} (h4 : 1 ≤ area) (h : CalmS d (2 + 2 * area)) (hb : sects b.length ≤ area) : (beginM t area b d).2 = 0 ∧ CalmS (beginM t area b d).1 (2 + 2 * area) ∧ (beginM t area b d).1.pend = [] := by
  have ha := area_in (t := t) (area := area) trivial
  obtain ⟨h1, h2, _⟩ := layM_calm (n := 2 + 2 * area) (by omega) ((2 + t % 2 * area : Nat) : Int) (pairsM t 0 b) d h (pairs_in (by omega))
  unfold beginM
  rw [if_neg (by rw [h1]; simp)]
  refine layM_calm (by omega) _ _ _ h2 (fun p hp => ?_)
  rw [List.mem_singleton.1 hp]
  dsimp only
  omega
theorem form_calm {area : Nat} (h4 : 1 ≤ area) : (formM area (DM.new (2 + 2 * area))).2 = 0 ∧ CalmS (formM area (DM.new (2 + 2 * area))).1 (2 + 2 * area) ∧ (formM area (DM.new (2 + 2 * area))).1.pend = [] := by
  have h0 : CalmS (DM.new (2 + 2 * area)) (2 + 2 * area) := ⟨⟨rfl, rfl, rfl⟩, by simp [DM.new]⟩
  obtain ⟨h1, h2, _⟩ := layM_calm (n := 2 + 2 * area) (by omega) 0 (noughtsL (2 + 2 * area)) _ h0 (fun p hp => by
    obtain ⟨i, hi, rfl⟩ := List.mem_map.1 hp
    have := List.mem_range.1 hi
    dsimp only
    omega)
  unfold formM
  rw [if_neg (by rw [h1]; simp)]
  exact begin_calm h4 h2 (by show sects 0 ≤ area; unfold sects; omega)
/-- a log on a new disk -/
def Mde (w w' : World) (area : Nat) (e : Ending) : Prop :=
  ∃ dg g F G, e = .returned (.tuple #[.pointer (some ⟨dg, 0, none⟩), .pointer (some ⟨g, 0, none⟩)]) ∧ Dk w' F dg (formM area (DM.new (2 + 2 * area))).1 ∧ Log w' G g dg area 0 [[]] false ∧ (∀ k, F k → w.heap.size ≤ k) ∧ (∀ k, G k → w.heap.size ≤ k ∧ k < w'.heap.size) ∧ Below w.heap.size w w'
set_option maxHeartbeats 4000000 in
theorem made_any (area : Nat) (w : World) (h4 : 4 ≤ area) (ha : area ≤ 1000) : Calls Try.prog 29 #[.int .i64 (area : Int)] w (fun e w' => Mde w w' area e) := by
  have mixed : Try.prog.follows .mixedOrders = true := by kernel_rfl
  have hfc := form_calm (area := area) (by omega)
  have HFC := Lib.hid hfc.1
  have hw1 : wrap64 (2 * (area : Int)) = 2 * (area : Int) := by unfold wrap64; omega
  have hw2 : wrap64 (2 + 2 * (area : Int)) = ((2 + 2 * area : Nat) : Int) := by unfold wrap64; omega
  clear hfc
  go_enter Try.func29, Try.ntmps29
  go_wp2_with fail
  refine (dnew_good (2 + 2 * area) w (by omega) (by omega)).mono ?_
  rintro e w1 ⟨dg, rfl, F0, hd0, hf0, hb1⟩
  obtain ⟨F1, hd1, hff⟩ := dk_new hd0
  have HF1 : Hid (∀ k, F1 k → w.heap.size ≤ k) := Lib.hid fun k hk => hf0 k (hff k hk)
  have HD1 := Lib.hid hd1
  have HB1 := Lib.hid hb1
  clear hd0 hf0 hb1 hd1 hff
  go_wp2_with fail
  refine (format_any dg area (DM.new (2 + 2 * area)) F1 w1 HD1.out h4 ha (by simp [DM.new]) (by simp [DM.new])).mono ?_
  rintro e w2 ⟨p, F2, rfl, hd2, hx2, ho2, -, hg2⟩
  obtain ⟨g, rfl, hgw, hbg⟩ := hg2 HFC.out
  rw [HFC.out]
  have hlog := Log.of_begun hbg hgw (by omega) rfl
  have HE : Hid (Mde w w2 area (.returned (.tuple #[.pointer (some ⟨dg, 0, none⟩), .pointer (some ⟨g, 0, none⟩)]))) := Lib.hid ⟨dg, g, F2, _, rfl, hd2, tight hlog, ext_new HB1.out.size hx2 HF1.out, fun k hk => ⟨Nat.le_trans HB1.out.size hk.1, hk.2⟩, below_off HB1.out ho2 HF1.out⟩
  clear hd2 hx2 ho2 hg2 hgw hbg hlog
  go_wp2
  exact bodyPost_ret (v := .tuple #[.pointer (some ⟨dg, 0, none⟩), .pointer (some ⟨g, 0, none⟩)]) (by simp [results, Try.results29, go_sem]) rfl HE.out
end Go.Proofs.Ytchagomphpfimaa.Wl
