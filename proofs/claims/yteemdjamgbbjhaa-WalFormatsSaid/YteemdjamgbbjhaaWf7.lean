/-
  Part 7 of the contracts that the law rests on.
-/
import Derived.Deep.Grids
import Derived.Test.YteemdjamgbbjhaaWf2
import Derived.Test.YteemdjamgbbjhaaWf6
/-
  Append and Checkpoint, where they refuse and where they do; logs on new disks.
-/
namespace Go.Proofs.Yteemdjamgbbjhaa.Wl
set_option maxRecDepth 100000
open Go.RowKit Go.Shelf Go.Proofs.Yteemdjamgbbjhaa.Wd Go.Proofs.Yteemdjamgbbjhaa.Dsk Go.Proofs.Yteemdjamgbbjhaa.Oct Go.Proofs.Yteemdjamgbbjhaa.Sum Go.Proofs.Yteemdjamgbbjhaa.Beq

theorem append_stop (g dg area t : Nat) (fs : List (List UInt8)) (br : Bool) (A2 : Option Addr) (m c2 : Nat) (G : Nat → Prop) (w : World) (hlog : Log w G g dg area t fs br) (h : 40000 < m ∨ br = true) :
    Calls Try.prog 16 #[.pointer (some ⟨g, 0, none⟩), .slice A2 m c2] w fun e w' => e = .returned (.int .i64 (if 40000 < m then 3 else 8)) ∧ Below w.heap.size w w' := by
  obtain ⟨A, c, xs, hrw, _⟩ := hlog
  have HR := Lib.hid (refuses_any g dg area t (usedM fs) fs.length c A br A2 m c2 w hrw)
  clear hrw
  by_cases hm : 40000 < m
  · rw [if_pos hm] at HR ⊢
    clear h hm
    go_enter Try.func16, Try.ntmps16
    go_wp2_with fail
    refine HR.out.mono ?_
    rintro e w1 ⟨rfl, rfl⟩
    go_wp2
    go_ret
    exact ⟨rfl, Below.refl _ _⟩
  · have hb : br = true := h.resolve_left hm
    rw [if_neg hm, hb, if_pos rfl] at HR
    rw [if_neg hm]
    clear h hm hb
    go_enter Try.func16, Try.ntmps16
    go_wp2_with fail
    refine HR.out.mono ?_
    rintro e w1 ⟨rfl, rfl⟩
    go_wp2
    go_ret
    exact ⟨rfl, Below.refl _ _⟩
theorem append_full (g dg area t : Nat) (fs : List (List UInt8)) (A2 : Option Addr) (m c2 : Nat) (G : Nat → Prop) (w : World) (hlog : Log w G g dg area t fs false) (hm : m ≤ 40000) (ha : area ≤ 1000) (hu : usedM fs ≤ area) (hroom : area - usedM fs < sects m) :
    Calls Try.prog 16 #[.pointer (some ⟨g, 0, none⟩), .slice A2 m c2] w fun e w' => e = .returned (.int .i64 6) ∧ Below w.heap.size w w' := by
  obtain ⟨A, c, xs, hrw, _⟩ := hlog
  have HR := Lib.hid (refuses_any g dg area t (usedM fs) fs.length c A false A2 m c2 w hrw)
  rw [if_neg (by omega), if_neg (by simp)] at HR
  have HSE := Lib.hid (sectors_any m w hm)
  have HLF := Lib.hid (left_any g dg area t fs.length c (usedM fs) A false w hrw ha hu)
  obtain ⟨s, hs⟩ : ∃ s, sects m = s := ⟨_, rfl⟩
  obtain ⟨f, hf⟩ : ∃ f, area - usedM fs = f := ⟨_, rfl⟩
  rw [hs] at HSE hroom
  rw [hf] at HLF hroom
  have hrm : (f : Int) < (s : Int) := by omega
  clear hrw hs hf hroom
  go_enter Try.func16, Try.ntmps16
  go_wp2_with fail
  refine HR.out.mono ?_
  rintro e w1 ⟨rfl, rfl⟩
  go_wp2_with fail
  refine HSE.out.mono ?_
  rintro e w1 ⟨rfl, rfl⟩
  go_wp2_with fail
  refine HLF.out.mono ?_
  rintro e w1 ⟨rfl, rfl⟩
  go_wp2
  go_ret
  exact ⟨rfl, (Below.refl _ _).drew⟩
theorem check_stop (g dg area t : Nat) (fs : List (List UInt8)) (br : Bool) (A2 : Option Addr) (m c2 : Nat) (G : Nat → Prop) (w : World) (hlog : Log w G g dg area t fs br) (h : 40000 < m ∨ br = true) :
    Calls Try.prog 17 #[.pointer (some ⟨g, 0, none⟩), .slice A2 m c2] w fun e w' => e = .returned (.int .i64 (if 40000 < m then 3 else 8)) ∧ Below w.heap.size w w' := by
  obtain ⟨A, c, xs, hrw, _⟩ := hlog
  have HR := Lib.hid (refuses_any g dg area t (usedM fs) fs.length c A br A2 m c2 w hrw)
  clear hrw
  by_cases hm : 40000 < m
  · rw [if_pos hm] at HR ⊢
    clear h hm
    go_enter Try.func17, Try.ntmps17
    go_wp2_with fail
    refine HR.out.mono ?_
    rintro e w1 ⟨rfl, rfl⟩
    go_wp2
    go_ret
    exact ⟨rfl, Below.refl _ _⟩
  · have hb : br = true := h.resolve_left hm
    rw [if_neg hm, hb, if_pos rfl] at HR
    rw [if_neg hm]
    clear h hm hb
    go_enter Try.func17, Try.ntmps17
    go_wp2_with fail
    refine HR.out.mono ?_
    rintro e w1 ⟨rfl, rfl⟩
    go_wp2
    go_ret
    exact ⟨rfl, Below.refl _ _⟩
/-- what a Checkpoint leaves -/
def CkZ (w w' : World) (F G : Nat → Prop) (g dg area t t2 : Nat) (fs : List (List UInt8)) (b : List UInt8) (Z : DM × Int) : Prop :=
  ∃ F' G', Dk w' F' dg Z.1 ∧ Ext F F' w w' ∧ Ext G G' w w' ∧ Off (fun k => F k ∨ G k) w w' ∧
    Log w' G' g dg area (if Z.2 = 0 then t2 else t) (if Z.2 = 0 then [b] else fs) (decide (Z.2 ≠ 0))
theorem tight {w : World} {G : Nat → Prop} {g dg area t : Nat} {fs : List (List UInt8)} {br : Bool} (h : Log w G g dg area t fs br) : Log w (fun k => G k ∧ k < w.heap.size) g dg area t fs br := by
  obtain ⟨A, c, xs, h1, h2, h3, h4, h5⟩ := h
  exact ⟨A, c, xs, h1, h2, ⟨h3, h1.lt⟩, fun k hkb => ⟨h4 k hkb, own_lt h2 hkb⟩, fun i hi => by
    obtain ⟨Ai, ni, ci, q1, q2, q3, q4⟩ := h5 i hi
    exact ⟨Ai, ni, ci, q1, q2, q3, fun k hkb => ⟨q4 k hkb, own_lt q2 hkb⟩⟩⟩
set_option maxHeartbeats 8000000 in
theorem check_full (g dg area t : Nat) (fs : List (List UInt8)) (A2 : Option Addr) (m c2 : Nat) (G : Nat → Prop) (w : World) (hlog : Log w G g dg area t fs false) (hm : m ≤ 40000) (hroom : area < sects m) :
    Calls Try.prog 17 #[.pointer (some ⟨g, 0, none⟩), .slice A2 m c2] w fun e w' => e = .returned (.int .i64 6) ∧ Below w.heap.size w w' := by
  have mixed : Try.prog.follows .mixedOrders = true := by kernel_rfl
  obtain ⟨A, c, xs, hrw, _⟩ := hlog
  have HR := Lib.hid (refuses_any g dg area t (usedM fs) fs.length c A false A2 m c2 w hrw)
  rw [if_neg (by omega), if_neg (by simp)] at HR
  have HSE := Lib.hid (fun W => sectors_any m W hm)
  obtain ⟨s, hs⟩ : ∃ s, sects m = s := ⟨_, rfl⟩
  rw [hs] at HSE hroom
  have hrm : decide (area < s) = true := by simp only [decide_eq_true_eq]; omega
  have hrm2 : decide ((area : Int) < (s : Int)) = true := by simp only [decide_eq_true_eq]; omega
  have HRW := Lib.hid hrw
  clear hrw hs hroom
  go_enter Try.func17, Try.ntmps17
  go_wp2_with fail
  refine HR.out.mono ?_
  rintro e w1 ⟨rfl, rfl⟩
  go_wp2_with fail
  refine wp_region_held_drew (S := fun W => Row W g 83 (wcs dg area t A fs.length c (usedM fs) false)) (by kernel_rfl) HRW.out (fun hHeld => ?_)
  have S0 := Lib.hid hHeld
  clear hHeld
  refine wpAnyH_take (i := 0) (oi := ⟨some 12, _, _, _, _, _⟩) (v := ?vm1) rfl (by kernel_rfl) (by kernel_rfl) (by kernel_rfl) (fun _ _ _ h => h) (Or.inl ⟨by rfl, ?ym1⟩) S0.out ?rm1
  case ym1 =>
    rintro w' hSw
    go_simp
    try with_reducible rfl
  try simp only [Act.put, List.setIfInBounds_toArray, List.set_cons_zero, List.set_cons_succ]
  refine wpAnyH_take (i := 1) (oi := ⟨some 13, _, _, _, _, _⟩) (v := ?vm2) rfl (by kernel_rfl) (by kernel_rfl) (by kernel_rfl) (fun _ _ _ h => h) (Or.inl ⟨by rfl, ?ym2⟩) S0.out ?rm2
  case ym2 =>
    rintro w' hSw
    go_simp
    try with_reducible rfl
  try simp only [Act.put, List.setIfInBounds_toArray, List.set_cons_zero, List.set_cons_succ]
  refine wpAnyH_take (i := 3) (oi := ⟨some 15, _, _, _, _, _⟩) (v := ?vm3) rfl (by kernel_rfl) (by kernel_rfl) (by kernel_rfl) (fun _ _ _ h => h) (Or.inl ⟨by rfl, ?ym3⟩) S0.out ?rm3
  case ym3 =>
    rintro w' hSw
    go_simp
    try with_reducible rfl
  try simp only [Act.put, List.setIfInBounds_toArray, List.set_cons_zero, List.set_cons_succ]
  refine wpAnyH_take (i := 4) (oi := ⟨some 16, _, _, _, _, _⟩) (v := ?vm4) rfl (by kernel_rfl) (by kernel_rfl) (by kernel_rfl) (fun _ _ _ h => h) (Or.inl ⟨by rfl, ?ym4⟩) S0.out ?rm4
  case ym4 =>
    rintro w' hSw
    go_simp
    try with_reducible rfl
  try simp only [Act.put, List.setIfInBounds_toArray, List.set_cons_zero, List.set_cons_succ]
  refine wpAnyH_take (i := 5) (oi := ⟨some 17, _, _, _, _, _⟩) (v := ?vm5) rfl (by kernel_rfl) (by kernel_rfl) (by kernel_rfl) (fun _ _ _ h => h) (Or.inl ⟨by rfl, ?ym5⟩) S0.out ?rm5
  case ym5 =>
    rintro w' hSw
    go_simp
    try with_reducible rfl
  try simp only [Act.put, List.setIfInBounds_toArray, List.set_cons_zero, List.set_cons_succ]
  refine wpAnyH_take (i := 6) (oi := ⟨some 18, _, _, _, _, _⟩) (v := ?vm6) rfl (by kernel_rfl) (by kernel_rfl) (by kernel_rfl) (fun _ _ _ h => h) (Or.inl ⟨by rfl, ?ym6⟩) S0.out ?rm6
  case ym6 =>
    rintro w' hSw
    have c1 : w'.cell? ⟨g, 1, none⟩ = some (.int .i64 (area : Int)) := hSw.cell 1
    go_simp
    try with_reducible rfl
  try simp only [Act.put, List.setIfInBounds_toArray, List.set_cons_zero, List.set_cons_succ]
  refine wpAnyH_ready (rs := [2]) (by kernel_rfl) (by simp) ?_
  refine (AllReadyH.cons rfl (fun K hK => ?_) AllReadyH.nil)
  go_simp
  refine (HSE.out w.drew).mono ?_
  rintro e wx ⟨rfl, rfl⟩
  refine hK _ _ S0.out (fun _ => ?_)
  clear hK K
  try simp only [Act.put, List.setIfInBounds_toArray, List.set_cons_zero, List.set_cons_succ]
  refine wpAnyH_take (i := 7) (oi := ⟨some 19, _, _, _, _, _⟩) (v := ?vm8) rfl (by kernel_rfl) (by kernel_rfl) (by kernel_rfl) (fun _ _ _ h => h) (Or.inl ⟨by rfl, ?ym8⟩) S0.out ?rm8
  case ym8 =>
    rintro w' hSw
    go_simp
    try with_reducible rfl
  try simp only [Act.put, List.setIfInBounds_toArray, List.set_cons_zero, List.set_cons_succ]
  refine wpAnyH_take (i := 8) (oi := ⟨some 20, _, _, _, _, _⟩) (v := ?vm9) rfl (by kernel_rfl) (by kernel_rfl) (by kernel_rfl) (fun _ _ _ h => h) (Or.inl ⟨by rfl, ?ym9⟩) S0.out ?rm9
  case ym9 =>
    rintro w' hSw
    go_simp
    try with_reducible rfl
  try simp only [Act.put, List.setIfInBounds_toArray, List.set_cons_zero, List.set_cons_succ]
  refine wpAnyH_take (i := 9) (oi := ⟨some 21, _, _, _, _, _⟩) (v := undef) rfl (by kernel_rfl) (by kernel_rfl) (by kernel_rfl) (fun _ _ _ h => h) (Or.inr ⟨by rfl, rfl⟩) S0.out ?rm10
  try simp only [Act.put, List.setIfInBounds_toArray, List.set_cons_zero, List.set_cons_succ]
  refine wpAnyH_take (i := 10) (oi := ⟨some 22, _, _, _, _, _⟩) (v := undef) rfl (by kernel_rfl) (by kernel_rfl) (by kernel_rfl) (fun _ _ _ h => h) (Or.inr ⟨by rfl, rfl⟩) S0.out ?rm11
  try simp only [Act.put, List.setIfInBounds_toArray, List.set_cons_zero, List.set_cons_succ]
  refine wpAnyH_take (i := 11) (oi := ⟨some 23, _, _, _, _, _⟩) (v := undef) rfl (by kernel_rfl) (by kernel_rfl) (by kernel_rfl) (fun _ _ _ h => h) (Or.inr ⟨by rfl, rfl⟩) S0.out ?rm12
  try simp only [Act.put, List.setIfInBounds_toArray, List.set_cons_zero, List.set_cons_succ]
  refine wpAnyH_take (i := 12) (oi := ⟨some 24, _, _, _, _, _⟩) (v := undef) rfl (by kernel_rfl) (by kernel_rfl) (by kernel_rfl) (fun _ _ _ h => h) (Or.inr ⟨by rfl, rfl⟩) S0.out ?rm13
  try simp only [Act.put, List.setIfInBounds_toArray, List.set_cons_zero, List.set_cons_succ]
  refine wpAnyH_take (i := 13) (oi := ⟨some 25, _, _, _, _, _⟩) (v := undef) rfl (by kernel_rfl) (by kernel_rfl) (by kernel_rfl) (fun _ _ _ h => h) (Or.inr ⟨by rfl, rfl⟩) S0.out ?rm14
  try simp only [Act.put, List.setIfInBounds_toArray, List.set_cons_zero, List.set_cons_succ]
  refine wpAnyH_take (i := 14) (oi := ⟨some 26, _, _, _, _, _⟩) (v := undef) rfl (by kernel_rfl) (by kernel_rfl) (by kernel_rfl) (fun _ _ _ h => h) (Or.inr ⟨by rfl, rfl⟩) S0.out ?rm15
  try simp only [Act.put, List.setIfInBounds_toArray, List.set_cons_zero, List.set_cons_succ]
  refine wpAnyH_take (i := 15) (oi := ⟨some 27, _, _, _, _, _⟩) (v := ?vm16) rfl (by kernel_rfl) (by kernel_rfl) (by kernel_rfl) (fun _ _ _ h => h) (Or.inl ⟨by rfl, ?ym16⟩) S0.out ?rm16
  case ym16 =>
    rintro w' hSw
    go_simp
    try with_reducible rfl
  try simp only [Act.put, List.setIfInBounds_toArray, List.set_cons_zero, List.set_cons_succ]
  refine wpAnyH_done (by kernel_rfl) ?_ _

  go_wp2
  go_ret
  exact ⟨rfl, (Below.refl _ _).drew⟩
set_option maxHeartbeats 8000000 in
theorem check_ok (g dg area t : Nat) (fs : List (List UInt8)) (A2 : Option Addr) (m c2 : Nat) (b : List UInt8) (d : DM) (F G : Nat → Prop) (w : World)
    (hlog : Log w G g dg area t fs false) (hd : Dk w F dg d) (hs : Sl w w.heap.size A2 m c2 b) (hm : m ≤ 40000) (ha : area ≤ 1000) (ht : t < 4294967295) (hroom : sects m ≤ area) (hp : d.pend.length ≤ 900000) :
    Calls Try.prog 17 #[.pointer (some ⟨g, 0, none⟩), .slice A2 m c2] w fun e w' => e = .returned (.int .i64 (beginM (t + 1) area b d).2) ∧ CkZ w w' F G g dg area t (t + 1) fs b (beginM (t + 1) area b d) := by
  have mixed : Try.prog.follows .mixedOrders = true := by kernel_rfl
  have HLG := Lib.hid hlog
  obtain ⟨A, c, xs, hrw, _⟩ := hlog
  have HR := Lib.hid (refuses_any g dg area t (usedM fs) fs.length c A false A2 m c2 w hrw)
  rw [if_neg (by omega), if_neg (by simp)] at HR
  have HSE := Lib.hid (fun W => sectors_any m W hm)
  obtain ⟨s, hse⟩ : ∃ s, sects m = s := ⟨_, rfl⟩
  rw [hse] at HSE hroom
  have hrm : decide (area < s) = false := by simp only [decide_eq_false_iff_not]; omega
  have hrm2 : decide ((area : Int) < (s : Int)) = false := by simp only [decide_eq_false_iff_not]; omega
  have htm : ¬ (t : Int) = 4294967295 := by omega
  have hwt : IntKind.u32.wrap ((t : Int) + 1) = ((t + 1 : Nat) : Int) := by rw [IntKind.wrap_u32]; omega
  have HRW := Lib.hid hrw
  have HD := Lib.hid hd
  have HS := Lib.hid hs
  obtain ⟨t2, ht2⟩ : ∃ t2, t + 1 = t2 := ⟨_, rfl⟩
  rw [ht2] at hwt
  have HBG := Lib.hid (begin_any g dg area t fs.length c (usedM fs) A false t2 A2 m c2 b d F w.drew (Row.drew hrw) (hd.below ((Below.refl _ _).drew)) ((hs.below ((Below.refl _ _).drew)).more (Nat.le_refl _)) hm ha (by omega) hp)
  have HT2 := Lib.hid ht2
  clear hrw hse hroom hd hs ht2
  rw [HT2.out]
  obtain ⟨Z, hZ⟩ : ∃ Z, beginM t2 area b d = Z := ⟨_, rfl⟩
  rw [hZ] at HBG ⊢
  clear hZ
  go_enter Try.func17, Try.ntmps17
  go_wp2_with fail
  refine HR.out.mono ?_
  rintro e w1 ⟨rfl, rfl⟩
  go_wp2_with fail
  refine wp_region_held_drew (S := fun W => Row W g 83 (wcs dg area t A fs.length c (usedM fs) false)) (by kernel_rfl) HRW.out (fun hHeld => ?_)
  have S0 := Lib.hid hHeld
  clear hHeld
  refine wpAnyH_take (i := 0) (oi := ⟨some 12, _, _, _, _, _⟩) (v := ?vn1) rfl (by kernel_rfl) (by kernel_rfl) (by kernel_rfl) (fun _ _ _ h => h) (Or.inl ⟨by rfl, ?yn1⟩) S0.out ?rn1
  case yn1 =>
    rintro w' hSw
    go_simp
    try with_reducible rfl
  try simp only [Act.put, List.setIfInBounds_toArray, List.set_cons_zero, List.set_cons_succ]
  refine wpAnyH_take (i := 1) (oi := ⟨some 13, _, _, _, _, _⟩) (v := ?vn2) rfl (by kernel_rfl) (by kernel_rfl) (by kernel_rfl) (fun _ _ _ h => h) (Or.inl ⟨by rfl, ?yn2⟩) S0.out ?rn2
  case yn2 =>
    rintro w' hSw
    go_simp
    try with_reducible rfl
  try simp only [Act.put, List.setIfInBounds_toArray, List.set_cons_zero, List.set_cons_succ]
  refine wpAnyH_take (i := 3) (oi := ⟨some 15, _, _, _, _, _⟩) (v := ?vn3) rfl (by kernel_rfl) (by kernel_rfl) (by kernel_rfl) (fun _ _ _ h => h) (Or.inl ⟨by rfl, ?yn3⟩) S0.out ?rn3
  case yn3 =>
    rintro w' hSw
    go_simp
    try with_reducible rfl
  try simp only [Act.put, List.setIfInBounds_toArray, List.set_cons_zero, List.set_cons_succ]
  refine wpAnyH_take (i := 4) (oi := ⟨some 16, _, _, _, _, _⟩) (v := ?vn4) rfl (by kernel_rfl) (by kernel_rfl) (by kernel_rfl) (fun _ _ _ h => h) (Or.inl ⟨by rfl, ?yn4⟩) S0.out ?rn4
  case yn4 =>
    rintro w' hSw
    go_simp
    try with_reducible rfl
  try simp only [Act.put, List.setIfInBounds_toArray, List.set_cons_zero, List.set_cons_succ]
  refine wpAnyH_take (i := 5) (oi := ⟨some 17, _, _, _, _, _⟩) (v := ?vn5) rfl (by kernel_rfl) (by kernel_rfl) (by kernel_rfl) (fun _ _ _ h => h) (Or.inl ⟨by rfl, ?yn5⟩) S0.out ?rn5
  case yn5 =>
    rintro w' hSw
    go_simp
    try with_reducible rfl
  try simp only [Act.put, List.setIfInBounds_toArray, List.set_cons_zero, List.set_cons_succ]
  refine wpAnyH_take (i := 6) (oi := ⟨some 18, _, _, _, _, _⟩) (v := ?vn6) rfl (by kernel_rfl) (by kernel_rfl) (by kernel_rfl) (fun _ _ _ h => h) (Or.inl ⟨by rfl, ?yn6⟩) S0.out ?rn6
  case yn6 =>
    rintro w' hSw
    have c1 : w'.cell? ⟨g, 1, none⟩ = some (.int .i64 (area : Int)) := hSw.cell 1
    go_simp
    try with_reducible rfl
  try simp only [Act.put, List.setIfInBounds_toArray, List.set_cons_zero, List.set_cons_succ]
  refine wpAnyH_ready (rs := [2]) (by kernel_rfl) (by simp) ?_
  refine (AllReadyH.cons rfl (fun K hK => ?_) AllReadyH.nil)
  go_simp
  refine (HSE.out w.drew).mono ?_
  rintro e wx ⟨rfl, rfl⟩
  refine hK _ _ S0.out (fun _ => ?_)
  clear hK K
  try simp only [Act.put, List.setIfInBounds_toArray, List.set_cons_zero, List.set_cons_succ]
  refine wpAnyH_take (i := 7) (oi := ⟨some 19, _, _, _, _, _⟩) (v := ?vn8) rfl (by kernel_rfl) (by kernel_rfl) (by kernel_rfl) (fun _ _ _ h => h) (Or.inl ⟨by rfl, ?yn8⟩) S0.out ?rn8
  case yn8 =>
    rintro w' hSw
    go_simp
    try with_reducible rfl
  try simp only [Act.put, List.setIfInBounds_toArray, List.set_cons_zero, List.set_cons_succ]
  refine wpAnyH_take (i := 8) (oi := ⟨some 20, _, _, _, _, _⟩) (v := ?vn9) rfl (by kernel_rfl) (by kernel_rfl) (by kernel_rfl) (fun _ _ _ h => h) (Or.inl ⟨by rfl, ?yn9⟩) S0.out ?rn9
  case yn9 =>
    rintro w' hSw
    go_simp
    try with_reducible rfl
  try simp only [Act.put, List.setIfInBounds_toArray, List.set_cons_zero, List.set_cons_succ]
  refine wpAnyH_take (i := 9) (oi := ⟨some 21, _, _, _, _, _⟩) (v := ?vn10) rfl (by kernel_rfl) (by kernel_rfl) (by kernel_rfl) (fun _ _ _ h => h) (Or.inl ⟨by rfl, ?yn10⟩) S0.out ?rn10
  case yn10 =>
    rintro w' hSw
    go_simp
    try with_reducible rfl
  try simp only [Act.put, List.setIfInBounds_toArray, List.set_cons_zero, List.set_cons_succ]
  refine wpAnyH_take (i := 10) (oi := ⟨some 22, _, _, _, _, _⟩) (v := ?vn11) rfl (by kernel_rfl) (by kernel_rfl) (by kernel_rfl) (fun _ _ _ h => h) (Or.inl ⟨by rfl, ?yn11⟩) S0.out ?rn11
  case yn11 =>
    rintro w' hSw
    go_simp
    try with_reducible rfl
  try simp only [Act.put, List.setIfInBounds_toArray, List.set_cons_zero, List.set_cons_succ]
  refine wpAnyH_take (i := 11) (oi := ⟨some 23, _, _, _, _, _⟩) (v := ?vn12) rfl (by kernel_rfl) (by kernel_rfl) (by kernel_rfl) (fun _ _ _ h => h) (Or.inl ⟨by rfl, ?yn12⟩) S0.out ?rn12
  case yn12 =>
    rintro w' hSw
    go_simp
    try with_reducible rfl
  try simp only [Act.put, List.setIfInBounds_toArray, List.set_cons_zero, List.set_cons_succ]
  refine wpAnyH_take (i := 12) (oi := ⟨some 24, _, _, _, _, _⟩) (v := ?vn13) rfl (by kernel_rfl) (by kernel_rfl) (by kernel_rfl) (fun _ _ _ h => h) (Or.inl ⟨by rfl, ?yn13⟩) S0.out ?rn13
  case yn13 =>
    rintro w' hSw
    go_simp
    try with_reducible rfl
  try simp only [Act.put, List.setIfInBounds_toArray, List.set_cons_zero, List.set_cons_succ]
  refine wpAnyH_take (i := 13) (oi := ⟨some 25, _, _, _, _, _⟩) (v := ?vn14) rfl (by kernel_rfl) (by kernel_rfl) (by kernel_rfl) (fun _ _ _ h => h) (Or.inl ⟨by rfl, ?yn14⟩) S0.out ?rn14
  case yn14 =>
    rintro w' hSw
    have c2 : w'.cell? ⟨g, 2, none⟩ = some (.int .u32 (t : Int)) := hSw.cell 2
    go_simp
    try with_reducible rfl
  try simp only [Act.put, List.setIfInBounds_toArray, List.set_cons_zero, List.set_cons_succ]
  refine wpAnyH_take (i := 14) (oi := ⟨some 26, _, _, _, _, _⟩) (v := ?vn15) rfl (by kernel_rfl) (by kernel_rfl) (by kernel_rfl) (fun _ _ _ h => h) (Or.inl ⟨by rfl, ?yn15⟩) S0.out ?rn15
  case yn15 =>
    rintro w' hSw
    go_simp
    try with_reducible rfl
  try simp only [Act.put, List.setIfInBounds_toArray, List.set_cons_zero, List.set_cons_succ]
  refine wpAnyH_take (i := 15) (oi := ⟨some 27, _, _, _, _, _⟩) (v := ?vn16) rfl (by kernel_rfl) (by kernel_rfl) (by kernel_rfl) (fun _ _ _ h => h) (Or.inl ⟨by rfl, ?yn16⟩) S0.out ?rn16
  case yn16 =>
    rintro w' hSw
    go_simp
    try with_reducible rfl
  try simp only [Act.put, List.setIfInBounds_toArray, List.set_cons_zero, List.set_cons_succ]
  refine wpAnyH_done (by kernel_rfl) ?_ _

  have c0 : w.drew.cell? ⟨g, 2, none⟩ = some (.int .u32 (t : Int)) := S0.out.cell 2
  go_wp2_with fail
  refine HBG.out.mono ?_
  rintro e w2 ⟨rfl, F', hd2, hx2, ho2, hn2, hz2⟩
  have hlt := HRW.out.lt
  have hG := HLG.out
  have HE : Hid (CkZ w w2 F G g dg area t t2 fs b Z) := Lib.hid (by
    obtain ⟨_, _, _, _, _, hGg, _, _⟩ := id hG
    have ho : Off (fun k => F k ∨ G k) w w2 := ⟨ho2.os, ho2.tape, ho2.output, ho2.size, fun k hk hn => ho2.block k hk (fun h => hn (h.imp id (fun e => by rw [e]; exact hGg)))⟩
    by_cases hz : Z.2 = 0
    · obtain ⟨A', c', Ab, cb, q1, q2, q3, q4, q5⟩ := hz2 hz
      have hbl : b.length = m := HS.out.len
      refine ⟨F', fun k => k = g ∨ (w.heap.size ≤ k ∧ k < w2.heap.size), hd2, hx2, fun k hk => ?_, ho, ?_⟩
      · rcases hk with hk | hk
        · rw [hk]; exact .inl hGg
        · exact .inr hk
      · rw [if_pos hz, if_pos hz, show decide (Z.2 ≠ 0) = false by simp [hz]]
        refine ⟨A', c', [.slice Ab m cb], by rw [show usedM [b] = sects m by rw [← hbl]; simp [usedM]]; exact q1, q2, .inl rfl, fun k hk => .inr ⟨q4 k hk, own_lt q2 hk⟩, fun i hi => ?_⟩
        have hi0 : i = 0 := by simp only [List.length_cons, List.length_nil] at hi; omega
        rw [hi0]
        exact ⟨Ab, m, cb, rfl, q3, hm, fun k hk => .inr ⟨q5 k hk, own_lt q3 hk⟩⟩
    · refine ⟨F', G, hd2, hx2, fun k hk => .inl hk, ho, ?_⟩
      rw [if_neg hz, if_neg hz, show decide (Z.2 ≠ 0) = true by simp [hz]]
      obtain ⟨A', c', xs', r1, r2, r3, r4, r5⟩ := hG
      have hAA : Row w2 g 83 (wcs dg area t A fs.length c (usedM fs) true) := hn2 hz
      have heq := row_cells r1 HRW.out
      simp only [wcs, List.cons.injEq, Value.slice.injEq, and_true, true_and] at heq
      obtain ⟨rfl, rfl⟩ := heq
      have hk : KeepR w w2 := fun k t cs h hr => keepR_off (HD.out.below ((Below.refl _ _).drew)) (Row.drew HRW.out) ho2 k t cs h hr
      exact ⟨A', c', xs', hAA, own_keepR r2 (.inl rfl) hk, r3, r4, fun i hi => by
        obtain ⟨Ai, ni, ci, s1, s2, s3, s4⟩ := r5 i hi
        exact ⟨Ai, ni, ci, s1, own_keepR s2 (.inr rfl) hk, s3, s4⟩⟩)
  clear hd2 hx2 ho2 hn2 hz2 hG hlt
  obtain ⟨z, hz⟩ : ∃ z, Z.2 = z := ⟨_, rfl⟩
  have HZ := Lib.hid hz
  rw [hz]
  clear hz
  go_wp2
  go_ret
  exact ⟨by rw [HZ.out]; rfl, HE.out⟩
end Go.Proofs.Yteemdjamgbbjhaa.Wl

/-
  Disks on which nothing fails; logs on new ones.
-/
namespace Go.Proofs.Yteemdjamgbbjhaa.Wl
set_option maxRecDepth 100000
open Go.RowKit Go.Shelf Go.Proofs.Yteemdjamgbbjhaa.Wd Go.Proofs.Yteemdjamgbbjhaa.Dsk Go.Proofs.Yteemdjamgbbjhaa.Oct Go.Proofs.Yteemdjamgbbjhaa.Sum Go.Proofs.Yteemdjamgbbjhaa.Beq

def Calm (d : DM) : Prop := d.dead = false ∧ d.ps = false ∧ d.fs = false
theorem pre_calm {d : DM} (h : Calm d) (i : Int) (ch : Bool) : d.pre i ch = (d, if i < 0 ∨ (d.sec.length : Int) ≤ i then 2 else 0) := by
  obtain ⟨h1, h2, h3⟩ := h
  unfold DM.pre
  by_cases a : i < 0
  · simp [h1, a]
  by_cases b : (d.sec.length : Int) ≤ i
  · simp [h1, a, b]
  simp [h1, h2, h3, a, b]
  cases d
  simp_all
theorem calm_read {d : DM} (h : Calm d) (i : Int) : Calm (d.readM i).1 ∧ (0 ≤ i → i < (d.sec.length : Int) → (d.readM i).2.1 = d.sec.getD i.toNat []) := by
  have hp := pre_calm h i false
  unfold DM.readM
  rw [hp]
  constructor
  · split <;> exact h
  · intro h0 h1
    rw [if_pos (by simp; omega)]
theorem calm_write {d : DM} (h : Calm d) (i : Int) (b : List UInt8) : d.writeM i b = if i < 0 ∨ (d.sec.length : Int) ≤ i then (d, 2) else ((d.put i.toNat b).tally, 0) := by
  unfold DM.writeM
  rw [pre_calm h i true]
  by_cases hr : i < 0 ∨ (d.sec.length : Int) ≤ i
  · simp [hr]
  · simp [hr]
theorem calm_sync {d : DM} (h : Calm d) (hp : 0 < d.sec.length) : d.syncM = ({ d with pend := [] }.tally, 0) := by
  unfold DM.syncM
  rw [pre_calm h 0 true]
  have : ¬ ((0 : Int) < 0 ∨ (d.sec.length : Int) ≤ 0) := by omega
  rw [if_neg this]
  exact if_pos rfl

/-- a disk of n sectors on which nothing fails -/
def CalmS (d : DM) (n : Nat) : Prop := Calm d ∧ d.sec.length = n
theorem layW_calm {n : Nat} (f : Int) : ∀ (L : List (Int × List UInt8)) (d : DM), CalmS d n → (∀ p ∈ L, 0 ≤ f + p.1 ∧ f + p.1 < (n : Int)) → (layW L f d).2 = 0 ∧ CalmS (layW L f d).1 n := by
  intro L
  induction L with
  | nil => intro d h _; exact ⟨rfl, h⟩
  | cons p L ih =>
    intro d h hp
    have h1 := hp p (by simp)
    have hw := calm_write h.1 (f + p.1) p.2
    rw [if_neg (by rw [h.2]; omega)] at hw
    have hl : layW (p :: L) f d = if (d.writeM (f + p.1) p.2).2 ≠ 0 then d.writeM (f + p.1) p.2 else layW L f (d.writeM (f + p.1) p.2).1 := rfl
    rw [hl, hw, if_neg (by simp)]
    refine ih _ ⟨h.1, ?_⟩ (fun q hq => hp q (by simp [hq]))
    show (d.sec.set _ _).length = n
    rw [List.length_set]; exact h.2
theorem layM_calm {n : Nat} (hn : 0 < n) (f : Int) (L : List (Int × List UInt8)) (d : DM) (h : CalmS d n) (hp : ∀ p ∈ L, 0 ≤ f + p.1 ∧ f + p.1 < (n : Int)) : (layM L f d).2 = 0 ∧ CalmS (layM L f d).1 n ∧ (layM L f d).1.pend = [] := by
  obtain ⟨h1, h2⟩ := layW_calm f L d h hp
  unfold layM
  rw [if_neg (by rw [h1]; simp)]
  have hs := calm_sync h2.1 (by rw [h2.2]; exact hn)
  rw [hs]
  exact ⟨rfl, ⟨h2.1, h2.2⟩, rfl⟩
theorem pairs_in {t k : Nat} {b : List UInt8} {f n : Nat} (h : f + sects b.length ≤ n) : ∀ p ∈ pairsM t k b, 0 ≤ (f : Int) + p.1 ∧ (f : Int) + p.1 < (n : Int) := by
  intro p hp
  obtain ⟨i, hi, rfl⟩ := List.mem_map.1 hp
  have := List.mem_range.1 hi
  dsimp only
  omega
theorem area_in {t area : Nat} (h : True) : t % 2 * area ≤ area := by
  have h2 : t % 2 ≤ 1 := by omega
  calc t % 2 * area ≤ 1 * area := Nat.mul_le_mul_right _ h2
    _ = area := Nat.one_mul _
theorem begin_calm {t area : Nat} {b : List UInt8} {d : DM} (h4 : 1 ≤ area) (h : CalmS d (2 + 2 * area)) (hb : sects b.length ≤ area) : (beginM t area b d).2 = 0 ∧ CalmS (beginM t area b d).1 (2 + 2 * area) ∧ (beginM t area b d).1.pend = [] := by
  have ha := area_in (t := t) (area := area) trivial
  obtain ⟨h1, h2, _⟩ := layM_calm (n := 2 + 2 * area) (by omega) ((2 + t % 2 * area : Nat) : Int) (pairsM t 0 b) d h (pairs_in (by omega))
  unfold beginM
  rw [if_neg (by rw [h1]; simp)]
  refine layM_calm (by omega) _ _ _ h2 (fun p hp => ?_)
  rw [List.mem_singleton.1 hp]
  dsimp only
  omega
theorem form_calm {area : Nat} (h4 : 1 ≤ area) : (formM area (DM.new (2 + 2 * area))).2 = 0 ∧ CalmS (formM area (DM.new (2 + 2 * area))).1 (2 + 2 * area) ∧ (formM area (DM.new (2 + 2 * area))).1.pend = [] := by
  have h0 : CalmS (DM.new (2 + 2 * area)) (2 + 2 * area) := ⟨⟨rfl, rfl, rfl⟩, by simp [DM.new]⟩
  obtain ⟨h1, h2, _⟩ := layM_calm (n := 2 + 2 * area) (by omega) 0 (noughtsL (2 + 2 * area)) _ h0 (fun p hp => by
    obtain ⟨i, hi, rfl⟩ := List.mem_map.1 hp
    have := List.mem_range.1 hi
    dsimp only
    omega)
  unfold formM
  rw [if_neg (by rw [h1]; simp)]
  exact begin_calm h4 h2 (by show sects 0 ≤ area; unfold sects; omega)
/-- a log on a new disk -/
def Mde (w w' : World) (area : Nat) (e : Ending) : Prop :=
  ∃ dg g F G, e = .returned (.tuple #[.pointer (some ⟨dg, 0, none⟩), .pointer (some ⟨g, 0, none⟩)]) ∧ Dk w' F dg (formM area (DM.new (2 + 2 * area))).1 ∧ Log w' G g dg area 0 [[]] false ∧ (∀ k, F k → w.heap.size ≤ k) ∧ (∀ k, G k → w.heap.size ≤ k ∧ k < w'.heap.size) ∧ Below w.heap.size w w'
set_option maxHeartbeats 4000000 in
theorem made_any (area : Nat) (w : World) (h4 : 4 ≤ area) (ha : area ≤ 1000) : Calls Try.prog 29 #[.int .i64 (area : Int)] w (fun e w' => Mde w w' area e) := by
  have mixed : Try.prog.follows .mixedOrders = true := by kernel_rfl
  have hfc := form_calm (area := area) (by omega)
  have HFC := Lib.hid hfc.1
  have hw1 : wrap64 (2 * (area : Int)) = 2 * (area : Int) := by unfold wrap64; omega
  have hw2 : wrap64 (2 + 2 * (area : Int)) = ((2 + 2 * area : Nat) : Int) := by unfold wrap64; omega
  clear hfc
  go_enter Try.func29, Try.ntmps29
  go_wp2_with fail
  refine (dnew_good (2 + 2 * area) w (by omega) (by omega)).mono ?_
  rintro e w1 ⟨dg, rfl, F0, hd0, hf0, hb1⟩
  obtain ⟨F1, hd1, hff⟩ := dk_new hd0
  have HF1 : Hid (∀ k, F1 k → w.heap.size ≤ k) := Lib.hid fun k hk => hf0 k (hff k hk)
  have HD1 := Lib.hid hd1
  have HB1 := Lib.hid hb1
  clear hd0 hf0 hb1 hd1 hff
  go_wp2_with fail
  refine (format_any dg area (DM.new (2 + 2 * area)) F1 w1 HD1.out h4 ha (by simp [DM.new]) (by simp [DM.new])).mono ?_
  rintro e w2 ⟨p, F2, rfl, hd2, hx2, ho2, -, hg2⟩
  obtain ⟨g, rfl, hgw, hbg⟩ := hg2 HFC.out
  rw [HFC.out]
  have hlog := Log.of_begun hbg hgw (by omega) rfl
  have HE : Hid (Mde w w2 area (.returned (.tuple #[.pointer (some ⟨dg, 0, none⟩), .pointer (some ⟨g, 0, none⟩)]))) := Lib.hid ⟨dg, g, F2, _, rfl, hd2, tight hlog, ext_new HB1.out.size hx2 HF1.out, fun k hk => ⟨Nat.le_trans HB1.out.size hk.1, hk.2⟩, below_off HB1.out ho2 HF1.out⟩
  clear hd2 hx2 ho2 hg2 hgw hbg hlog
  go_wp2
  exact bodyPost_ret (v := .tuple #[.pointer (some ⟨dg, 0, none⟩), .pointer (some ⟨g, 0, none⟩)]) (by simp [results, Try.results29, go_sem]) rfl HE.out
end Go.Proofs.Yteemdjamgbbjhaa.Wl

/-
  What a disk's sectors hold of a log: pure.
-/
namespace Go.Proofs.Yteemdjamgbbjhaa.Wl
set_option maxRecDepth 100000
open Go.RowKit Go.Shelf Go.Proofs.Yteemdjamgbbjhaa.Wd Go.Proofs.Yteemdjamgbbjhaa.Dsk Go.Proofs.Yteemdjamgbbjhaa.Oct Go.Proofs.Yteemdjamgbbjhaa.Sum Go.Proofs.Yteemdjamgbbjhaa.Beq

/-! heads -/
theorem headB_t (t a : Nat) (ht : t < 4294967296) : headT (headB t a) = t := by
  unfold headT headB headF
  have h8 : ([103, 97, 122, 101, 116, 119, 97, 108] : List UInt8).length = 8 := rfl
  rw [List.append_assoc, List.append_assoc, List.append_assoc, ← h8, List.drop_left, List.append_assoc, List.take_left' (by rw [hi_length])]
  rw [num_hi]
  exact Nat.mod_eq_of_lt ht
theorem headB_a (t a : Nat) (ha : a < 4294967296) : headA (headB t a) = a := by
  unfold headA headB headF
  have h12 : ([103, 97, 122, 101, 116, 119, 97, 108] ++ hi 4 t : List UInt8).length = 12 := by simp [hi_length]
  rw [List.append_assoc, List.append_assoc, ← h12, List.drop_left, List.append_assoc, List.take_left' (by rw [hi_length])]
  rw [num_hi]
  exact Nat.mod_eq_of_lt ha
theorem right_head (t a i n : Nat) (ht : t < 4294967296) (ha : a < 4294967296) : rightH (headB t a) i n = (decide (t % 2 = i) && decide (4 ≤ a ∧ a ≤ 1000 ∧ 2 + 2 * a ≤ n)) := by
  unfold rightH
  rw [headB_t t a ht, headB_a t a ha]
  simp
theorem right_nought (i n : Nat) : rightH nought i n = false := by
  unfold rightH
  have : headB (headT nought) (headA nought) ≠ nought := by decide +kernel
  simp [this]

/-! parts -/
theorem partM_turn (t k : Nat) (b : List UInt8) (i : Nat) : (partM t k b i).take 4 = hi 4 t := by
  unfold partM partB frontB
  simp only [List.append_assoc]
  exact List.take_left' (by rw [hi_length])
/-- a sector that no frame of the turn t has: nought, or a part of an older turn -/
def Old (t : Nat) (s : List UInt8) : Prop := s = nought ∨ ∃ t' k b i, t' < t ∧ b.length ≤ 40000 ∧ i < sects b.length ∧ s = partM t' k b i
theorem Old.more {t t' : Nat} {s : List UInt8} (h : Old t s) (ht : t ≤ t') : Old t' s := by
  rcases h with h | ⟨a, k, b, i, h1, h2⟩
  · exact .inl h
  · exact .inr ⟨a, k, b, i, by omega, h2⟩
theorem Old.nought (t : Nat) : Old t nought := .inl rfl
theorem Old.not {t : Nat} {s : List UInt8} (h : Old t s) (ht : t < 4294967296) (k : Nat) (b : List UInt8) (i : Nat) (hb : b.length ≤ 40000) : s ≠ partM t k b i := by
  intro he
  rcases h with h | ⟨t', k', b', i', h1, h2, h3, h4⟩
  · exact part_not_nought t k i (sects b.length) _ (sects_pos _) (by have := sects_most _ hb; omega) (he.symm.trans h)
  · have e1 := partM_turn t k b i
    have e2 := partM_turn t' k' b' i'
    rw [← he, h4, e2] at e1
    have n1 := num_hi 4 t'
    rw [e1, num_hi] at n1
    rw [Nat.mod_eq_of_lt (by omega : t < 256 ^ 4), Nat.mod_eq_of_lt (by omega : t' < 256 ^ 4)] at n1
    omega
theorem Old.len {t : Nat} {s : List UInt8} (h : Old t s) : s.length = 64 := by
  rcases h with h | ⟨t', k', b', i', h1, h2, h3, h4⟩
  · rw [h]; rfl
  · rw [h4]; exact partM_len _ _ _ _

/-! where sectors stand -/
/-- the sectors of the area of a turn -/
def areaS (sec : List (List UInt8)) (t area : Nat) : List (List UInt8) := (List.range area).map fun j => sec.getD (2 + t % 2 * area + j) []
theorem areaS_len (sec : List (List UInt8)) (t area : Nat) : (areaS sec t area).length = area := by simp [areaS]
theorem areaS_get (sec : List (List UInt8)) (t area j : Nat) (h : j < area) : (areaS sec t area).getD j [] = sec.getD (2 + t % 2 * area + j) [] := by
  unfold areaS
  rw [List.getD_eq_getElem?_getD, List.getElem?_map, List.getElem?_range h]
  rfl
/-- a disk's sectors hold a log: the turn's head, the older one, the turn's frames, and nothing else of that turn or a younger one -/
structure Shows (sec : List (List UInt8)) (t area : Nat) (fs : List (List UInt8)) : Prop where
  len : sec.length = 2 + 2 * area
  a4 : 4 ≤ area
  am : area ≤ 1000
  tm : t < 4294967296
  hd : sec.getD (t % 2) [] = headB t area
  oth : sec.getD ((t + 1) % 2) [] = nought ∨ ∃ t', t' < t ∧ sec.getD ((t + 1) % 2) [] = headB t' area
  ne : fs ≠ []
  used : usedM fs ≤ area
  most : ∀ b ∈ fs, b.length ≤ 40000
  fr : ∀ j, j < usedM fs → sec.getD (2 + t % 2 * area + j) [] = (laidM t 0 fs).getD j []
  stop : standsM t fs.length ((areaS sec t area).drop (usedM fs)) = none
  next : ∀ j, j < area → Old (t + 2) (sec.getD (2 + (t + 1) % 2 * area + j) [])
theorem two_heads {sec : List (List UInt8)} {n : Nat} (h : 2 ≤ sec.length) : headsH (sec.take 2) n 2 = stepH (sec.getD 1 []) 1 n (stepH (sec.getD 0 []) 0 n none) := by
  have g : ∀ i, i < 2 → (sec.take 2).getD i nought = sec.getD i [] := fun i hi => by
    rw [List.getD_eq_getElem?_getD, List.getElem?_take_of_lt hi, List.getD_eq_getElem?_getD, List.getElem?_eq_getElem (by omega)]
    rfl
  have e : headsH (sec.take 2) n 2 = stepH ((sec.take 2).getD 1 nought) 1 n (stepH ((sec.take 2).getD 0 nought) 0 n none) := rfl
  rw [e, g 0 (by omega), g 1 (by omega)]
theorem Shows.heads {sec : List (List UInt8)} {t area : Nat} {fs : List (List UInt8)} (h : Shows sec t area fs) : headsH (sec.take 2) sec.length 2 = some (t, area) := by
  have ha4 := h.a4
  have ham := h.am
  have hlen := h.len
  have htm := h.tm
  rw [two_heads (by omega)]
  have hr : rightH (headB t area) (t % 2) sec.length = true := by
    rw [right_head t area _ _ htm (by omega)]
    simp only [decide_true, Bool.true_and, decide_eq_true_eq]
    omega
  have hstep : ∀ m, (m = none ∨ (m.getD (0, 0)).1 < t) → stepH (headB t area) (t % 2) sec.length m = some (t, area) := fun m hm => by
    unfold stepH
    rw [headB_t t area htm, headB_a t area (by omega), if_pos ⟨hr, hm⟩]
  have hoth : ∀ m, (m = none ∨ m = some (t, area)) → (stepH (sec.getD ((t + 1) % 2) []) ((t + 1) % 2) sec.length m = m ∨ (m = none ∧ ∃ t', t' < t ∧ stepH (sec.getD ((t + 1) % 2) []) ((t + 1) % 2) sec.length m = some (t', area))) := fun m hm => by
    rcases h.oth with ho | ⟨t', ht', ho⟩
    · left
      rw [ho]
      unfold stepH
      rw [right_nought]
      simp
    · rw [ho]
      unfold stepH
      rw [headB_t t' area (by omega), headB_a t' area (by omega)]
      by_cases hc : rightH (headB t' area) ((t + 1) % 2) sec.length = true ∧ (m = none ∨ (m.getD (0, 0)).1 < t')
      · rw [if_pos hc]
        rcases hm with rfl | rfl
        · exact .inr ⟨rfl, t', ht', rfl⟩
        · exfalso
          have := hc.2.resolve_left (by simp)
          simp only [Option.getD_some] at this
          omega
      · rw [if_neg hc]; exact .inl rfl
  have hd := h.hd
  rcases Nat.mod_two_eq_zero_or_one t with h0 | h1
  · have e1 : (t + 1) % 2 = 1 := by omega
    rw [e1] at hoth
    rw [h0] at hd hstep
    rw [hd, hstep none (.inl rfl)]
    rcases hoth (some (t, area)) (.inr rfl) with h | ⟨h, _⟩
    · exact h
    · cases h
  · have e1 : (t + 1) % 2 = 0 := by omega
    rw [e1] at hoth
    rw [h1] at hd hstep
    rw [hd]
    rcases hoth none (.inl rfl) with h | ⟨_, t', ht', h⟩
    · rw [h]; exact hstep none (.inl rfl)
    · rw [h]; exact hstep _ (.inr ht')
theorem laid_shape {sec : List (List UInt8)} {t area : Nat} {fs : List (List UInt8)} (h : Shows sec t area fs) : areaS sec t area = laidM t 0 fs ++ (areaS sec t area).drop (usedM fs) := by
  have hl := laidM_len t fs 0
  have hu := h.used
  have ht : (areaS sec t area).take (usedM fs) = laidM t 0 fs := by
    refine List.ext_getElem (by rw [List.length_take, areaS_len, hl]; omega) fun j h1 h2 => ?_
    rw [List.getElem_take]
    have hj : j < usedM fs := by rw [← hl]; exact h2
    have e1 := areaS_get sec t area j (by omega)
    rw [← getD_lt _ j [] (by rw [areaS_len]; omega)] at e1
    rw [e1, h.fr j hj, ← getD_lt _ j [] h2]
  rw [← ht, List.take_append_drop]
theorem Shows.chain {sec : List (List UInt8)} {t area : Nat} {fs : List (List UInt8)} (h : Shows sec t area fs) : chainM t (area + 1) 0 (areaS sec t area) = fs := by
  rw [laid_shape h]
  exact chain_laid t fs _ 0 (area + 1) h.most (by rw [Nat.zero_add]; exact h.stop) (by have := used_most fs; have := h.used; omega)
/-- behind the frames stands nothing of the turn -/
def Rest (sec : List (List UInt8)) (t area : Nat) (fs : List (List UInt8)) : Prop := ∀ j, usedM fs ≤ j → j < area → Old t (sec.getD (2 + t % 2 * area + j) [])
theorem stop_of {sec : List (List UInt8)} {t area u k : Nat} (ht : t < 4294967296) (h : u < area → ∀ b i, b.length ≤ 40000 → sec.getD (2 + t % 2 * area + u) [] ≠ partM t k b i) : standsM t k ((areaS sec t area).drop u) = none := by
  refine stands_none t _ _ fun b hb he => ?_
  by_cases hlt : u < area
  · rw [List.head?_drop, List.getElem?_eq_getElem (by rw [areaS_len]; exact hlt)] at he
    have he2 := Option.some.inj he
    have e1 := areaS_get sec t area u hlt
    rw [← getD_lt _ _ [] (by rw [areaS_len]; exact hlt)] at e1
    rw [e1] at he2
    exact h hlt b 0 hb he2
  · rw [List.drop_eq_nil_of_le (by rw [areaS_len]; omega)] at he
    cases he
theorem Rest.stop {sec : List (List UInt8)} {t area : Nat} {fs : List (List UInt8)} (h : Rest sec t area fs) (ht : t < 4294967296) : standsM t fs.length ((areaS sec t area).drop (usedM fs)) = none :=
  stop_of ht fun hlt b i hb => (h _ (Nat.le_refl _) hlt).not ht _ b i hb
end Go.Proofs.Yteemdjamgbbjhaa.Wl

/-
  Opening a disk whose sectors hold a log: pure.
-/
namespace Go.Proofs.Yteemdjamgbbjhaa.Wl
set_option maxRecDepth 100000
open Go.RowKit Go.Shelf Go.Proofs.Yteemdjamgbbjhaa.Wd Go.Proofs.Yteemdjamgbbjhaa.Dsk Go.Proofs.Yteemdjamgbbjhaa.Oct Go.Proofs.Yteemdjamgbbjhaa.Sum Go.Proofs.Yteemdjamgbbjhaa.Beq

theorem pre_quiet {d : DM} (h1 : d.dead = false) (h2 : d.fs = false) (i : Int) (h0 : 0 ≤ i) (hi : i < (d.sec.length : Int)) : d.pre i false = (d, 0) := by
  unfold DM.pre
  have a : ¬ i < 0 := by omega
  have b : ¬ (d.sec.length : Int) ≤ i := by omega
  simp only [h1, a, b, h2]
  cases d
  simp_all
theorem read_quiet {d : DM} (h1 : d.dead = false) (h2 : d.fs = false) (i : Int) (h0 : 0 ≤ i) (hi : i < (d.sec.length : Int)) : ∃ o, d.readM i = ({ d with ops := o }, d.sec.getD i.toNat [], 0) := by
  unfold DM.readM
  rw [pre_quiet h1 h2 i h0 hi, if_pos rfl]
  exact ⟨_, rfl⟩
theorem rd_quiet : ∀ (is : List Int) {d : DM}, d.dead = false → d.fs = false → (∀ i ∈ is, 0 ≤ i ∧ i < (d.sec.length : Int)) → ∃ o, rdM is d = ({ d with ops := o }, is.map (fun i => d.sec.getD i.toNat []), 0) := by
  intro is
  induction is with
  | nil => intro d _ _ _; exact ⟨d.ops, rfl⟩
  | cons i is ih =>
    intro d h1 h2 h
    obtain ⟨o, ho⟩ := read_quiet h1 h2 i (h i (by simp)).1 (h i (by simp)).2
    obtain ⟨o2, ho2⟩ := ih (d := { d with ops := o }) h1 h2 (fun j hj => h j (by simp [hj]))
    refine ⟨o2, ?_⟩
    have e : rdM (i :: is) d = if (d.readM i).2.2 ≠ 0 then ((d.readM i).1, [], (d.readM i).2.2) else ((rdM is (d.readM i).1).1, (d.readM i).2.1 :: (rdM is (d.readM i).1).2.1, (rdM is (d.readM i).1).2.2) := rfl
    rw [e, ho]
    simp only [ne_eq, not_true_eq_false, if_false]
    rw [ho2]
    rfl
theorem idxs_two {sec : List (List UInt8)} (h : 2 ≤ sec.length) : (idxs 0 2).map (fun i => sec.getD i.toNat []) = sec.take 2 := by
  have e : (idxs 0 2).map (fun i => sec.getD i.toNat []) = [sec.getD 0 [], sec.getD 1 []] := rfl
  rw [e]
  match sec, h with
  | a :: b :: l, _ => rfl
theorem idxs_area (sec : List (List UInt8)) (t area : Nat) : (idxs (2 + t % 2 * area) area).map (fun i => sec.getD i.toNat []) = areaS sec t area := by
  unfold idxs areaS
  rw [List.map_map]
  refine List.map_congr_left fun j _ => ?_
  show sec.getD (((2 + t % 2 * area + j : Nat) : Int)).toNat [] = _
  rw [Int.toNat_natCast]
/-- what an Open comes to -/
theorem open_shape {d : DM} {t area : Nat} {fs : List (List UInt8)} (h1 : d.dead = false) (h2 : d.fs = false) (h : Shows d.sec t area fs) :
    ∃ o, openM d = ((sweepM ((areaS d.sec t area).drop (usedM fs)) ((2 + t % 2 * area + usedM fs : Nat) : Int) { d with ops := o }).1, (sweepM ((areaS d.sec t area).drop (usedM fs)) ((2 + t % 2 * area + usedM fs : Nat) : Int) { d with ops := o }).2, (t, area, fs)) := by
  have hlen := h.len
  have hta := area_in (t := t) (area := area) trivial
  obtain ⟨o1, e1⟩ := rd_quiet (idxs 0 2) h1 h2 (fun i hi => by
    obtain ⟨j, hj, rfl⟩ := List.mem_map.1 hi
    have := List.mem_range.1 hj
    show 0 ≤ ((0 + j : Nat) : Int) ∧ ((0 + j : Nat) : Int) < (d.sec.length : Int)
    omega)
  obtain ⟨o2, e2⟩ := rd_quiet (idxs (2 + t % 2 * area) area) (d := { d with ops := o1 }) h1 h2 (fun i hi => by
    obtain ⟨j, hj, rfl⟩ := List.mem_map.1 hi
    have := List.mem_range.1 hj
    show 0 ≤ ((2 + t % 2 * area + j : Nat) : Int) ∧ ((2 + t % 2 * area + j : Nat) : Int) < (d.sec.length : Int)
    omega)
  rw [idxs_two (by omega)] at e1
  have e3 : (idxs (2 + t % 2 * area) area).map (fun i => ({ d with ops := o1 } : DM).sec.getD i.toNat []) = areaS d.sec t area := idxs_area d.sec t area
  rw [e3] at e2
  refine ⟨o2, ?_⟩
  unfold openM
  rw [e1]
  simp only [ne_eq, not_true_eq_false, if_false]
  rw [h.heads]
  dsimp only
  rw [e2]
  simp only [ne_eq, not_true_eq_false, if_false]
  rw [h.chain, if_neg h.ne]
/-! what is written -/
def secs (L : List (Int × List UInt8)) (f : Int) (s : List (List UInt8)) : List (List UInt8) := L.foldl (fun s p => s.set (f + p.1).toNat p.2) s
theorem secs_len (L : List (Int × List UInt8)) (f : Int) : ∀ s, (secs L f s).length = s.length := by
  induction L with
  | nil => intro s; rfl
  | cons p L ih => intro s; exact (ih _).trans (List.length_set ..)
theorem secs_none (f : Int) (j : Nat) : ∀ (L : List (Int × List UInt8)) (s : List (List UInt8)), (∀ p ∈ L, (f + p.1).toNat ≠ j) → (secs L f s).getD j [] = s.getD j [] := by
  intro L
  induction L with
  | nil => intro s _; rfl
  | cons p L ih =>
    intro s h
    have e : secs (p :: L) f s = secs L f (s.set (f + p.1).toNat p.2) := rfl
    rw [e, ih _ (fun q hq => h q (by simp [hq])), List.getD_eq_getElem?_getD, List.getElem?_set_ne (h p (by simp)), ← List.getD_eq_getElem?_getD]
theorem secs_some (f : Int) (j : Nat) (v : List UInt8) : ∀ (L : List (Int × List UInt8)) (s : List (List UInt8)), j < s.length → (∀ p ∈ L, (f + p.1).toNat = j → p.2 = v) → ((∃ p ∈ L, (f + p.1).toNat = j) ∨ s.getD j [] = v) → (secs L f s).getD j [] = v := by
  intro L
  induction L with
  | nil => intro s _ _ h; exact h.resolve_left (by simp)
  | cons p L ih =>
    intro s hj hv h
    have e : secs (p :: L) f s = secs L f (s.set (f + p.1).toNat p.2) := rfl
    rw [e]
    refine ih _ (by rw [List.length_set]; exact hj) (fun q hq => hv q (by simp [hq])) ?_
    by_cases hp : (f + p.1).toNat = j
    · right
      rw [hp, List.getD_eq_getElem?_getD, List.getElem?_set_self hj]
      exact hv p (by simp) hp
    · rcases h with ⟨q, hq, hqj⟩ | h
      · rcases List.mem_cons.1 hq with rfl | hq
        · exact absurd hqj hp
        · exact .inl ⟨q, hq, hqj⟩
      · right
        rw [List.getD_eq_getElem?_getD, List.getElem?_set_ne hp, ← List.getD_eq_getElem?_getD]
        exact h
theorem layW_secs {n : Nat} (f : Int) : ∀ (L : List (Int × List UInt8)) (d : DM), CalmS d n → (∀ p ∈ L, 0 ≤ f + p.1 ∧ f + p.1 < (n : Int)) → (layW L f d).1.sec = secs L f d.sec := by
  intro L
  induction L with
  | nil => intro d _ _; rfl
  | cons p L ih =>
    intro d h hp
    have h1 := hp p (by simp)
    have hw := calm_write h.1 (f + p.1) p.2
    rw [if_neg (by rw [h.2]; omega)] at hw
    have hl : layW (p :: L) f d = if (d.writeM (f + p.1) p.2).2 ≠ 0 then d.writeM (f + p.1) p.2 else layW L f (d.writeM (f + p.1) p.2).1 := rfl
    rw [hl, hw, if_neg (by simp)]
    refine ih _ ⟨h.1, ?_⟩ (fun q hq => hp q (by simp [hq]))
    show (d.sec.set _ _).length = n
    rw [List.length_set]; exact h.2
theorem layM_secs {n : Nat} (hn : 0 < n) (f : Int) (L : List (Int × List UInt8)) (d : DM) (h : CalmS d n) (hp : ∀ p ∈ L, 0 ≤ f + p.1 ∧ f + p.1 < (n : Int)) : (layM L f d).1.sec = secs L f d.sec := by
  obtain ⟨h1, h2⟩ := layW_calm f L d h hp
  unfold layM
  rw [if_neg (by rw [h1]; simp), calm_sync h2.1 (by rw [h2.2]; exact hn)]
  exact layW_secs f L d h hp
theorem nfL_mem {L : List (List UInt8)} {k : Nat} {p : Int × List UInt8} (h : p ∈ nfL L k) : ∃ i, i < k ∧ p = ((i : Int), nought) ∧ ¬ L.getD i nought = nought := by
  unfold nfL at h
  rw [List.mem_filterMap] at h
  obtain ⟨i, hi, he⟩ := h
  refine ⟨i, List.mem_range.1 hi, ?_⟩
  split at he
  · cases he
  · rename_i hn
    exact ⟨(Option.some.inj he).symm, hn⟩
theorem nfL_has {L : List (List UInt8)} {k i : Nat} (hi : i < k) (h : ¬ L.getD i nought = nought) : ((i : Int), nought) ∈ nfL L k := by
  unfold nfL
  rw [List.mem_filterMap]
  exact ⟨i, List.mem_range.2 hi, by rw [if_neg h]⟩
/-- noughts behind the frames -/
def Clean (sec : List (List UInt8)) (t area : Nat) (fs : List (List UInt8)) : Prop := ∀ j, usedM fs ≤ j → j < area → sec.getD (2 + t % 2 * area + j) [] = nought
theorem clean_rest {sec : List (List UInt8)} {t area : Nat} {fs : List (List UInt8)} (h : Clean sec t area fs) : ∀ x ∈ (areaS sec t area).drop (usedM fs), x = nought := by
  intro x hx
  obtain ⟨j, hj, rfl⟩ := List.mem_iff_getElem.1 hx
  rw [List.length_drop, areaS_len] at hj
  rw [List.getElem_drop, getD_lt _ _ [] (by rw [areaS_len]; omega), areaS_get _ _ _ _ (by omega)]
  exact h _ (by omega) (by omega)
theorem open_again {d : DM} {t area : Nat} {fs : List (List UInt8)} (h1 : d.dead = false) (h2 : d.fs = false) (hp : d.pend = []) (h : Shows d.sec t area fs) (hc : Clean d.sec t area fs) : ∃ o, openM d = ({ d with ops := o }, 0, (t, area, fs)) := by
  obtain ⟨o, ho⟩ := open_shape h1 h2 h
  refine ⟨o, ?_⟩
  have hs : sweepM ((areaS d.sec t area).drop (usedM fs)) ((2 + t % 2 * area + usedM fs : Nat) : Int) { d with ops := o } = ({ d with ops := o }, 0) := by
    unfold sweepM
    rw [if_pos ⟨clean_rest hc, hp⟩]
  rw [ho, hs]
/-- the sectors of one turn's area are not those of the other -/
theorem areas_apart {t area i j : Nat} (hi : i < area) (hj : j < area) : 2 + t % 2 * area + i ≠ 2 + (t + 1) % 2 * area + j := by
  rcases Nat.mod_two_eq_zero_or_one t with h0 | h1
  · have e1 : (t + 1) % 2 = 1 := by omega
    rw [h0, e1, Nat.zero_mul, Nat.one_mul]; omega
  · have e1 : (t + 1) % 2 = 0 := by omega
    rw [h1, e1, Nat.zero_mul, Nat.one_mul]; omega
theorem open_clean {d : DM} {t area : Nat} {fs : List (List UInt8)} (hd : CalmS d (2 + 2 * area)) (hp : d.pend = []) (h : Shows d.sec t area fs) :
    ∃ d', openM d = (d', 0, (t, area, fs)) ∧ CalmS d' (2 + 2 * area) ∧ d'.pend = [] ∧ Shows d'.sec t area fs ∧ Clean d'.sec t area fs := by
  obtain ⟨o, ho⟩ := open_shape hd.1.1 hd.1.2.2 h
  have hu := h.used
  have hlen := h.len
  have hta := area_in (t := t) (area := area) trivial
  have hta2 := area_in (t := t + 1) (area := area) trivial
  by_cases hz : ∀ x ∈ (areaS d.sec t area).drop (usedM fs), x = nought
  · have hs : sweepM ((areaS d.sec t area).drop (usedM fs)) ((2 + t % 2 * area + usedM fs : Nat) : Int) { d with ops := o } = ({ d with ops := o }, 0) := by
      unfold sweepM
      rw [if_pos ⟨hz, hp⟩]
    rw [hs] at ho
    refine ⟨_, ho, ⟨hd.1, hd.2⟩, hp, h, fun j hj1 hj2 => ?_⟩
    have hl : j - usedM fs < ((areaS d.sec t area).drop (usedM fs)).length := by rw [List.length_drop, areaS_len]; omega
    have := hz _ (List.getElem_mem hl)
    rw [List.getElem_drop, getD_lt _ _ [] (by rw [areaS_len]; omega), areaS_get _ _ _ _ (by omega)] at this
    rw [← this]
    show d.sec.getD _ [] = _
    congr 1
    omega
  · have hR : ∀ i, i < area - usedM fs → ((areaS d.sec t area).drop (usedM fs)).getD i nought = d.sec.getD (2 + t % 2 * area + (usedM fs + i)) [] := fun i hi => by
      rw [← getD_lt _ i nought (by rw [List.length_drop, areaS_len]; exact hi), List.getElem_drop, getD_lt _ _ [] (by rw [areaS_len]; omega), areaS_get _ _ _ _ (by omega)]
    have hRl : ((areaS d.sec t area).drop (usedM fs)).length = area - usedM fs := by rw [List.length_drop, areaS_len]
    obtain ⟨R, hRe⟩ : ∃ R, (areaS d.sec t area).drop (usedM fs) = R := ⟨_, rfl⟩
    rw [hRe] at ho hz hR hRl
    have hs : sweepM R ((2 + t % 2 * area + usedM fs : Nat) : Int) { d with ops := o } = layM (nfL R R.length) ((2 + t % 2 * area + usedM fs : Nat) : Int) { d with ops := o } := by
      unfold sweepM
      rw [if_neg (fun hh => hz hh.1)]
    have hin : ∀ p ∈ nfL R R.length, 0 ≤ ((2 + t % 2 * area + usedM fs : Nat) : Int) + p.1 ∧ ((2 + t % 2 * area + usedM fs : Nat) : Int) + p.1 < ((2 + 2 * area : Nat) : Int) := fun p hpm => by
      obtain ⟨i, hi, rfl, _⟩ := nfL_mem hpm
      rw [hRl] at hi
      dsimp only
      omega
    have hd2 : CalmS ({ d with ops := o } : DM) (2 + 2 * area) := ⟨hd.1, hd.2⟩
    obtain ⟨q1, q2, q3⟩ := layM_calm (by omega) ((2 + t % 2 * area + usedM fs : Nat) : Int) (nfL R R.length) _ hd2 hin
    have q4 := layM_secs (by omega) ((2 + t % 2 * area + usedM fs : Nat) : Int) (nfL R R.length) _ hd2 hin
    rw [hs] at ho
    rw [q1] at ho
    have hfar : ∀ j, (∀ i, i < area - usedM fs → 2 + t % 2 * area + usedM fs + i ≠ j) → (secs (nfL R R.length) ((2 + t % 2 * area + usedM fs : Nat) : Int) d.sec).getD j [] = d.sec.getD j [] := fun j hj => secs_none _ j _ _ (fun p hpm => by
      obtain ⟨i, hi, rfl, _⟩ := nfL_mem hpm
      rw [hRl] at hi
      have := hj i hi
      dsimp only
      omega)
    have hnear : ∀ i, i < area - usedM fs → (secs (nfL R R.length) ((2 + t % 2 * area + usedM fs : Nat) : Int) d.sec).getD (2 + t % 2 * area + usedM fs + i) [] = nought := fun i hi => by
      refine secs_some _ _ nought _ _ (by omega) (fun p hpm _ => ?_) ?_
      · obtain ⟨i', _, rfl, _⟩ := nfL_mem hpm; rfl
      · by_cases hn : R.getD i nought = nought
        · right
          rw [← hn, hR i hi, Nat.add_assoc]
        · left
          exact ⟨_, nfL_has (by rw [hRl]; exact hi) hn, by dsimp only; omega⟩
    have hclean : Clean (layM (nfL R R.length) ((2 + t % 2 * area + usedM fs : Nat) : Int) { d with ops := o }).1.sec t area fs := fun j hj1 hj2 => by
      rw [q4]
      have := hnear (j - usedM fs) (by omega)
      rw [show 2 + t % 2 * area + usedM fs + (j - usedM fs) = 2 + t % 2 * area + j by omega] at this
      exact this
    refine ⟨_, ho, q2, q3, ⟨q2.2, h.a4, h.am, h.tm, ?_, ?_, h.ne, h.used, h.most, ?_, Rest.stop (fun j hj1 hj2 => .inl (hclean j hj1 hj2)) h.tm, ?_⟩, hclean⟩
    · rw [q4, hfar _ (fun i hi => by omega)]; exact h.hd
    · rw [q4, hfar _ (fun i hi => by omega)]; exact h.oth
    · intro j hj
      rw [q4, hfar _ (fun i hi => by omega)]
      exact h.fr j hj
    · intro j hj
      rw [q4, hfar _ (fun i hi => by
        have := areas_apart (t := t) (area := area) (i := usedM fs + i) (j := j) (by omega) hj
        omega)]
      exact h.next j hj
end Go.Proofs.Yteemdjamgbbjhaa.Wl

/-
  What formats, checkpoints and appends leave on a disk on which nothing fails: pure.
-/
namespace Go.Proofs.Yteemdjamgbbjhaa.Wl
set_option maxRecDepth 100000
open Go.RowKit Go.Shelf Go.Proofs.Yteemdjamgbbjhaa.Wd Go.Proofs.Yteemdjamgbbjhaa.Dsk Go.Proofs.Yteemdjamgbbjhaa.Oct Go.Proofs.Yteemdjamgbbjhaa.Sum Go.Proofs.Yteemdjamgbbjhaa.Beq

theorem partsM_get (t k : Nat) (b : List UInt8) {i : Nat} (h : i < sects b.length) : (partsM t k b).getD i [] = partM t k b i := by
  unfold partsM
  rw [List.getD_eq_getElem?_getD, List.getElem?_map, List.getElem?_range h]
  rfl
theorem pairs_far {t k : Nat} {b : List UInt8} {f j : Nat} {s : List (List UInt8)} (h : ∀ i, i < sects b.length → f + i ≠ j) : (secs (pairsM t k b) (f : Int) s).getD j [] = s.getD j [] :=
  secs_none _ j _ _ fun p hp => by
    obtain ⟨i, hi, rfl⟩ := List.mem_map.1 hp
    have := h i (List.mem_range.1 hi)
    dsimp only
    omega
theorem pairs_near {t k : Nat} {b : List UInt8} {f i : Nat} {s : List (List UInt8)} (hi : i < sects b.length) (hf : f + i < s.length) : (secs (pairsM t k b) (f : Int) s).getD (f + i) [] = partM t k b i := by
  refine secs_some _ _ _ _ _ hf (fun p hp he => ?_) (.inl ⟨((i : Int), partM t k b i), List.mem_map.2 ⟨i, List.mem_range.2 hi, rfl⟩, by dsimp only; omega⟩)
  obtain ⟨i', hi', rfl⟩ := List.mem_map.1 hp
  dsimp only at he ⊢
  rw [show i' = i by omega]
theorem laidM_snoc (t : Nat) (b : List UInt8) : ∀ (fs : List (List UInt8)) (k : Nat), laidM t k (fs ++ [b]) = laidM t k fs ++ partsM t (k + fs.length) b := by
  intro fs
  induction fs with
  | nil => intro k; show partsM t k b ++ [] = _; rw [List.append_nil]; rfl
  | cons a fs ih =>
    intro k
    show partsM t k a ++ laidM t (k + 1) (fs ++ [b]) = (partsM t k a ++ laidM t (k + 1) fs) ++ _
    rw [ih, List.append_assoc, List.length_cons, show k + 1 + fs.length = k + (fs.length + 1) by omega]
theorem laidM_mem (t : Nat) : ∀ (fs : List (List UInt8)) (k : Nat), (∀ b ∈ fs, b.length ≤ 40000) → ∀ s ∈ laidM t k fs, ∃ k' b i, b.length ≤ 40000 ∧ i < sects b.length ∧ s = partM t k' b i := by
  intro fs
  induction fs with
  | nil => intro k _ s hs; cases hs
  | cons a fs ih =>
    intro k hb s hs
    rcases List.mem_append.1 (show s ∈ partsM t k a ++ laidM t (k + 1) fs from hs) with h | h
    · obtain ⟨i, hi, rfl⟩ := List.mem_map.1 h
      exact ⟨k, a, i, hb a (by simp), List.mem_range.1 hi, rfl⟩
    · exact ih (k + 1) (fun b hb' => hb b (by simp [hb'])) s h
/-- a log lies on a disk on which nothing fails, and all of it is safe -/
structure Lies0 (d : DM) (t area : Nat) (fs : List (List UInt8)) : Prop where
  calm : CalmS d (2 + 2 * area)
  pend : d.pend = []
  shows : Shows d.sec t area fs
  rest : Rest d.sec t area fs
/-- and in the other area stands nothing of that turn or a younger one -/
structure Lies (d : DM) (t area : Nat) (fs : List (List UInt8)) : Prop extends Lies0 d t area fs where
  nxt : ∀ j, j < area → Old t (d.sec.getD (2 + (t + 1) % 2 * area + j) [])
theorem append_lies0 {d : DM} {t area : Nat} {fs : List (List UInt8)} {b : List UInt8} (h : Lies0 d t area fs) (hb : b.length ≤ 40000) (hr : sects b.length ≤ area - usedM fs) :
    (layM (pairsM t fs.length b) ((2 + t % 2 * area + usedM fs : Nat) : Int) d).2 = 0 ∧ Lies0 (layM (pairsM t fs.length b) ((2 + t % 2 * area + usedM fs : Nat) : Int) d).1 t area (fs ++ [b]) := by
  have hu := h.shows.used
  have hlen := h.shows.len
  have hta := area_in (t := t) (area := area) trivial
  have hin : ∀ p ∈ pairsM t fs.length b, 0 ≤ ((2 + t % 2 * area + usedM fs : Nat) : Int) + p.1 ∧ ((2 + t % 2 * area + usedM fs : Nat) : Int) + p.1 < ((2 + 2 * area : Nat) : Int) := pairs_in (by omega)
  obtain ⟨q1, q2, q3⟩ := layM_calm (by omega) _ _ d h.calm hin
  have q4 := layM_secs (by omega) _ _ d h.calm hin
  obtain ⟨D, hD⟩ : ∃ D, layM (pairsM t fs.length b) ((2 + t % 2 * area + usedM fs : Nat) : Int) d = D := ⟨_, rfl⟩
  rw [hD] at q1 q2 q3 q4 ⊢
  have hfar : ∀ j, (∀ i, i < sects b.length → 2 + t % 2 * area + usedM fs + i ≠ j) → D.1.sec.getD j [] = d.sec.getD j [] := fun j hj => by
    rw [q4]; exact pairs_far hj
  have hnear : ∀ i, i < sects b.length → D.1.sec.getD (2 + t % 2 * area + usedM fs + i) [] = partM t fs.length b i := fun i hi => by
    rw [q4]; exact pairs_near hi (by omega)
  have hrest : Rest D.1.sec t area (fs ++ [b]) := fun j h1 h2 => by
    rw [usedM_snoc] at h1
    rw [hfar _ (fun i hi => by omega)]
    exact h.rest j (by omega) h2
  refine ⟨q1, q2, q3, ⟨q2.2, h.shows.a4, h.shows.am, h.shows.tm, ?_, ?_, by simp, by rw [usedM_snoc]; omega, fun x hx => ?_, fun j hj => ?_, hrest.stop h.shows.tm, fun j hj => ?_⟩, hrest⟩
  · rw [hfar _ (fun i hi => by omega)]; exact h.shows.hd
  · rw [hfar _ (fun i hi => by omega)]; exact h.shows.oth
  · rcases List.mem_append.1 hx with hx | hx
    · exact h.shows.most x hx
    · rw [List.mem_singleton.1 hx]; exact hb
  · rw [usedM_snoc] at hj
    rw [laidM_snoc, Nat.zero_add]
    by_cases hlt : j < usedM fs
    · rw [hfar _ (fun i hi => by omega), h.shows.fr j hlt, List.getD_eq_getElem?_getD, List.getD_eq_getElem?_getD, List.getElem?_append_left (by rw [laidM_len]; exact hlt)]
    · have e := hnear (j - usedM fs) (by omega)
      rw [show 2 + t % 2 * area + usedM fs + (j - usedM fs) = 2 + t % 2 * area + j by omega] at e
      rw [e, List.getD_eq_getElem?_getD, List.getElem?_append_right (by rw [laidM_len]; omega), laidM_len, ← List.getD_eq_getElem?_getD, partsM_get _ _ _ (by omega)]
  · rw [hfar _ (fun i hi => by
      have := areas_apart (t := t) (area := area) (i := usedM fs + i) (j := j) (by omega) hj
      omega)]
    exact h.shows.next j hj
theorem append_lies {d : DM} {t area : Nat} {fs : List (List UInt8)} {b : List UInt8} (h : Lies d t area fs) (hb : b.length ≤ 40000) (hr : sects b.length ≤ area - usedM fs) :
    (layM (pairsM t fs.length b) ((2 + t % 2 * area + usedM fs : Nat) : Int) d).2 = 0 ∧ Lies (layM (pairsM t fs.length b) ((2 + t % 2 * area + usedM fs : Nat) : Int) d).1 t area (fs ++ [b]) := by
  obtain ⟨e1, e2⟩ := append_lies0 h.toLies0 hb hr
  refine ⟨e1, e2, fun j hj => ?_⟩
  have hu := h.shows.used
  have hta := area_in (t := t) (area := area) trivial
  have q4 := layM_secs (by omega) _ _ d h.calm (show ∀ p ∈ pairsM t fs.length b, 0 ≤ ((2 + t % 2 * area + usedM fs : Nat) : Int) + p.1 ∧ ((2 + t % 2 * area + usedM fs : Nat) : Int) + p.1 < ((2 + 2 * area : Nat) : Int) from pairs_in (by omega))
  rw [q4, pairs_far (fun i hi => by
    have := areas_apart (t := t) (area := area) (i := usedM fs + i) (j := j) (by omega) hj
    omega)]
  exact h.nxt j hj
/-- a turn begins -/
theorem begin_lies {d : DM} {t area : Nat} {b : List UInt8} (hd : CalmS d (2 + 2 * area)) (h4 : 4 ≤ area) (ham : area ≤ 1000) (ht : t < 4294967296) (hb : b.length ≤ 40000) (hr : sects b.length ≤ area)
    (ha : ∀ j, j < area → Old t (d.sec.getD (2 + t % 2 * area + j) [])) (hn : ∀ j, j < area → Old t (d.sec.getD (2 + (t + 1) % 2 * area + j) []))
    (ho : d.sec.getD ((t + 1) % 2) [] = nought ∨ ∃ t', t' < t ∧ d.sec.getD ((t + 1) % 2) [] = headB t' area) :
    (beginM t area b d).2 = 0 ∧ Lies (beginM t area b d).1 t area [b] := by
  obtain ⟨c1, c2, c3⟩ := begin_calm (t := t) (by omega) hd hr
  have hta := area_in (t := t) (area := area) trivial
  have hin : ∀ p ∈ pairsM t 0 b, 0 ≤ ((2 + t % 2 * area : Nat) : Int) + p.1 ∧ ((2 + t % 2 * area : Nat) : Int) + p.1 < ((2 + 2 * area : Nat) : Int) := pairs_in (by omega)
  obtain ⟨q1, q2, q3⟩ := layM_calm (by omega) _ _ d hd hin
  have q4 := layM_secs (by omega) _ _ d hd hin
  have hin2 : ∀ p ∈ [((0 : Int), headB t area)], 0 ≤ ((t % 2 : Nat) : Int) + p.1 ∧ ((t % 2 : Nat) : Int) + p.1 < ((2 + 2 * area : Nat) : Int) := fun p hp => by
    rw [List.mem_singleton.1 hp]
    dsimp only
    omega
  have q5 := layM_secs (n := 2 + 2 * area) (by omega) _ _ (layM (pairsM t 0 b) ((2 + t % 2 * area : Nat) : Int) d).1 q2 hin2
  have he : beginM t area b d = layM [(0, headB t area)] ((t % 2 : Nat) : Int) (layM (pairsM t 0 b) ((2 + t % 2 * area : Nat) : Int) d).1 := by
    unfold beginM
    rw [if_neg (by rw [q1]; simp)]
  rw [← he, q4] at q5
  obtain ⟨D, hD⟩ : ∃ D, beginM t area b d = D := ⟨_, rfl⟩
  rw [hD] at c1 c2 c3 q5 ⊢
  have hs2 : ∀ s : List (List UInt8), secs [((0 : Int), headB t area)] ((t % 2 : Nat) : Int) s = s.set (t % 2) (headB t area) := fun s => by
    show s.set (((t % 2 : Nat) : Int) + 0).toNat _ = _
    rw [Int.add_zero, Int.toNat_natCast]
  rw [hs2] at q5
  have hdl := hd.2
  have hget : ∀ j, j ≠ t % 2 → D.1.sec.getD j [] = (secs (pairsM t 0 b) ((2 + t % 2 * area : Nat) : Int) d.sec).getD j [] := fun j hj => by
    rw [q5, List.getD_eq_getElem?_getD, List.getElem?_set_ne (Ne.symm hj), ← List.getD_eq_getElem?_getD]
  have hfar : ∀ j, j ≠ t % 2 → (∀ i, i < sects b.length → 2 + t % 2 * area + i ≠ j) → D.1.sec.getD j [] = d.sec.getD j [] := fun j h1 h2 => by
    rw [hget j h1]; exact pairs_far h2
  have hnear : ∀ i, i < sects b.length → D.1.sec.getD (2 + t % 2 * area + i) [] = partM t 0 b i := fun i hi => by
    rw [hget _ (by omega)]; exact pairs_near hi (by omega)
  have hus : usedM [b] = sects b.length := by simp [usedM]
  have hrest : Rest D.1.sec t area [b] := fun j h1 h2 => by
    rw [hus] at h1
    rw [hfar _ (by omega) (fun i hi => by omega)]
    exact ha j h2
  have hnx : ∀ j, j < area → Old t (D.1.sec.getD (2 + (t + 1) % 2 * area + j) []) := fun j hj => by
    rw [hfar _ (by omega) (fun i hi => by
      have := areas_apart (t := t) (area := area) (i := i) (j := j) (by omega) hj
      omega)]
    exact hn j hj
  refine ⟨c1, ⟨c2, c3, ⟨c2.2, h4, ham, ht, ?_, ?_, by simp, by rw [hus]; exact hr, fun x hx => by rw [List.mem_singleton.1 hx]; exact hb, fun j hj => ?_, hrest.stop ht, fun j hj => (hnx j hj).more (by omega)⟩, hrest⟩, hnx⟩
  · rw [q5, List.getD_eq_getElem?_getD, List.getElem?_set_self (by rw [secs_len]; omega)]; rfl
  · rw [hfar _ (by omega) (fun i hi => by omega)]; exact ho
  · rw [hus] at hj
    rw [hnear j hj]
    show _ = (partsM t 0 b ++ []).getD j []
    rw [List.append_nil, partsM_get _ _ _ hj]
theorem check_lies {d : DM} {t area : Nat} {fs : List (List UInt8)} {b : List UInt8} (h : Lies d t area fs) (ht : t + 1 < 4294967296) (hb : b.length ≤ 40000) (hr : sects b.length ≤ area) :
    (beginM (t + 1) area b d).2 = 0 ∧ Lies (beginM (t + 1) area b d).1 (t + 1) area [b] := by
  have e2 : (t + 1 + 1) % 2 = t % 2 := by omega
  refine begin_lies h.calm h.shows.a4 h.shows.am ht hb hr (fun j hj => (h.nxt j hj).more (by omega)) (fun j hj => ?_) ?_
  · rw [e2]
    by_cases hlt : j < usedM fs
    · rw [h.shows.fr j hlt]
      have hl : j < (laidM t 0 fs).length := by rw [laidM_len]; exact hlt
      rw [← getD_lt _ _ [] hl]
      obtain ⟨k', b', i, h1, h2, h3⟩ := laidM_mem t fs 0 h.shows.most _ (List.getElem_mem hl)
      exact .inr ⟨t, k', b', i, by omega, h1, h2, h3⟩
    · exact (h.rest j (by omega) hj).more (by omega)
  · rw [e2]
    exact .inr ⟨t, by omega, h.shows.hd⟩
theorem form_lies {area : Nat} (h4 : 4 ≤ area) (ham : area ≤ 1000) : (formM area (DM.new (2 + 2 * area))).2 = 0 ∧ Lies (formM area (DM.new (2 + 2 * area))).1 0 area [[]] := by
  have h0 : CalmS (DM.new (2 + 2 * area)) (2 + 2 * area) := ⟨⟨rfl, rfl, rfl⟩, by simp [DM.new]⟩
  have hin : ∀ p ∈ noughtsL (2 + 2 * area), 0 ≤ (0 : Int) + p.1 ∧ (0 : Int) + p.1 < ((2 + 2 * area : Nat) : Int) := fun p hp => by
    obtain ⟨i, hi, rfl⟩ := List.mem_map.1 hp
    have := List.mem_range.1 hi
    dsimp only
    omega
  obtain ⟨q1, q2, q3⟩ := layM_calm (by omega) 0 (noughtsL (2 + 2 * area)) _ h0 hin
  have q4 := layM_secs (by omega) 0 (noughtsL (2 + 2 * area)) _ h0 hin
  have hz : ∀ j, j < 2 + 2 * area → (layM (noughtsL (2 + 2 * area)) 0 (DM.new (2 + 2 * area))).1.sec.getD j [] = nought := fun j hj => by
    rw [q4]
    refine secs_some _ _ _ _ _ (by simp [DM.new]; omega) (fun p hp _ => ?_) (.inl ⟨((j : Int), nought), List.mem_map.2 ⟨j, List.mem_range.2 hj, rfl⟩, by dsimp only; omega⟩)
    obtain ⟨i, _, rfl⟩ := List.mem_map.1 hp
    rfl
  have he : formM area (DM.new (2 + 2 * area)) = beginM 0 area [] (layM (noughtsL (2 + 2 * area)) 0 (DM.new (2 + 2 * area))).1 := by
    unfold formM
    rw [if_neg (by rw [q1]; simp)]
  rw [he]
  refine begin_lies q2 h4 ham (by omega) (by simp) (by show sects 0 ≤ area; unfold sects; omega) (fun j hj => .inl (hz _ (by omega))) (fun j hj => .inl (hz _ (by omega))) (.inl (hz _ (by omega)))
end Go.Proofs.Yteemdjamgbbjhaa.Wl

/-
  A crash, as pure functions on a disk's numbers.
-/
namespace Go.Proofs.Yteemdjamgbbjhaa.Dsk
open Go.RowKit Go.Proofs.Yteemdjamgbbjhaa.Wd

/-- a crash: what is kept lives -/
def backM (sec : List (List UInt8)) : List (Int × List UInt8 × List UInt8) → List (List UInt8)
  | [] => sec
  | p :: ps => (backM sec ps).set p.1.toNat p.2.1
def liveF (sec : List (List UInt8)) (pend : List (Int × List UInt8 × List UInt8)) (keep : List Bool) (k : Nat) : List (List UInt8) :=
  (List.range k).foldl (fun s i => if keep.getD i false then s.set (pend.getD i noWrite).1.toNat (pend.getD i noWrite).2.2 else s) sec
def liveM (sec : List (List UInt8)) (pend : List (Int × List UInt8 × List UInt8)) (keep : List Bool) : List (List UInt8) := liveF sec pend keep pend.length
theorem liveF_succ (sec : List (List UInt8)) (pend : List (Int × List UInt8 × List UInt8)) (keep : List Bool) (k : Nat) : liveF sec pend keep (k + 1) = if keep.getD k false then (liveF sec pend keep k).set (pend.getD k noWrite).1.toNat (pend.getD k noWrite).2.2 else liveF sec pend keep k := by simp [liveF, List.range_succ]
theorem liveF_len (sec : List (List UInt8)) (pend : List (Int × List UInt8 × List UInt8)) (keep : List Bool) (k : Nat) : (liveF sec pend keep k).length = sec.length := by
  induction k with
  | zero => rfl
  | succ k ih => rw [liveF_succ]; split <;> simp [ih]
def DM.crashM (d : DM) (keep : List Bool) : DM := ⟨liveM (backM d.sec d.pend) d.pend keep, [], false, false, 0, false, 0, d.ops⟩
end Go.Proofs.Yteemdjamgbbjhaa.Dsk

/-
  What a power cut leaves of what was being laid, and of an append: pure.
-/
namespace Go.Proofs.Yteemdjamgbbjhaa.Wl
set_option maxRecDepth 100000
open Go.RowKit Go.Shelf Go.Proofs.Yteemdjamgbbjhaa.Wd Go.Proofs.Yteemdjamgbbjhaa.Dsk Go.Proofs.Yteemdjamgbbjhaa.Oct Go.Proofs.Yteemdjamgbbjhaa.Sum Go.Proofs.Yteemdjamgbbjhaa.Beq

theorem back_snocW (s : List (List UInt8)) (l : List (Int × List UInt8 × List UInt8)) (p : Int × List UInt8 × List UInt8) : backM s (l ++ [p]) = backM (s.set p.1.toNat p.2.1) l := by
  induction l with
  | nil => rfl
  | cons q l ih =>
    show (backM s (l ++ [p])).set _ _ = _
    rw [ih]; rfl
theorem back_putW (s : List (List UInt8)) (l : List (Int × List UInt8 × List UInt8)) (i : Nat) (b : List UInt8) (hi : i < s.length) : backM (s.set i b) (l ++ [((i : Int), s.getD i [], b)]) = backM s l := by
  rw [back_snocW, Int.toNat_natCast]
  congr 1
  apply List.ext_getElem
  · simp
  · intro j h1 h2
    have hj : j < s.length := by simpa using h1
    by_cases e : i = j
    · subst e
      simp [hi]
    · simp [List.getElem_set, e]
/-- sectors of s0, or what L lays on them -/
def Mix (L : List (Int × List UInt8)) (f : Int) (s0 s : List (List UInt8)) : Prop := s.length = s0.length ∧ ∀ j, s.getD j [] = s0.getD j [] ∨ ∃ p ∈ L, (f + p.1).toNat = j ∧ s.getD j [] = p.2
theorem Mix.refl (L : List (Int × List UInt8)) (f : Int) (s : List (List UInt8)) : Mix L f s s := ⟨rfl, fun _ => .inl rfl⟩
theorem Mix.set {L : List (Int × List UInt8)} {f : Int} {s0 s : List (List UInt8)} (h : Mix L f s0 s) {p : Int × List UInt8} (hp : p ∈ L) : Mix L f s0 (s.set (f + p.1).toNat p.2) := by
  refine ⟨by rw [List.length_set]; exact h.1, fun j => ?_⟩
  rw [List.getD_eq_getElem?_getD, List.getElem?_set]
  by_cases e : (f + p.1).toNat = j
  · rw [if_pos e]
    by_cases hl : (f + p.1).toNat < s.length
    · rw [if_pos hl]; exact .inr ⟨p, hp, e, rfl⟩
    · rw [if_neg hl]
      refine .inl ?_
      rw [List.getD_eq_getElem?_getD, List.getElem?_eq_none (by rw [← h.1]; omega)]
  · rw [if_neg e, ← List.getD_eq_getElem?_getD]; exact h.2 j
/-- a disk on which some of L was laid, and not all of it is safe -/
structure Wr (L : List (Int × List UInt8)) (f : Int) (s0 : List (List UInt8)) (d : DM) : Prop where
  mix : Mix L f s0 d.sec
  back : backM d.sec d.pend = s0
  pd : ∀ q ∈ d.pend, ∃ p ∈ L, q.1.toNat = (f + p.1).toNat ∧ q.2.2 = p.2
theorem Wr.write {L : List (Int × List UInt8)} {f : Int} {s0 : List (List UInt8)} {d : DM} (h : Wr L f s0 d) {p : Int × List UInt8} (hp : p ∈ L) (h0 : 0 ≤ f + p.1) (h1 : f + p.1 < (s0.length : Int)) : Wr L f s0 (d.writeM (f + p.1) p.2).1 := by
  have e1 := pre_sec d (f + p.1) true
  have e2 := pre_pend d (f + p.1) true
  have hl := h.mix.1
  unfold DM.writeM
  split
  · refine ⟨?_, ?_, fun q hq => ?_⟩
    · show Mix _ _ _ ((d.pre (f + p.1) true).1.sec.set (f + p.1).toNat p.2)
      rw [e1]; exact h.mix.set hp
    · show backM ((d.pre (f + p.1) true).1.sec.set (f + p.1).toNat p.2) ((d.pre (f + p.1) true).1.pend ++ [(((f + p.1).toNat : Int), (d.pre (f + p.1) true).1.sec.getD (f + p.1).toNat [], p.2)]) = s0
      rw [e1, e2, back_putW _ _ _ _ (by omega)]; exact h.back
    · have hq' : q ∈ (d.pre (f + p.1) true).1.pend ++ [(((f + p.1).toNat : Int), (d.pre (f + p.1) true).1.sec.getD (f + p.1).toNat [], p.2)] := hq
      rw [e2] at hq'
      rcases List.mem_append.1 hq' with hq | hq
      · exact h.pd q hq
      · rw [List.mem_singleton.1 hq]
        exact ⟨p, hp, by dsimp only; omega, rfl⟩
  · exact ⟨by rw [e1]; exact h.mix, by rw [e1, e2]; exact h.back, by rw [e2]; exact h.pd⟩
theorem Wr.lays {L : List (Int × List UInt8)} {f : Int} {s0 : List (List UInt8)} : ∀ (M : List (Int × List UInt8)) {d : DM}, Wr L f s0 d → (∀ p ∈ M, p ∈ L ∧ 0 ≤ f + p.1 ∧ f + p.1 < (s0.length : Int)) → Wr L f s0 (layW M f d).1 := by
  intro M
  induction M with
  | nil => intro d h _; exact h
  | cons p M ih =>
    intro d h hp
    obtain ⟨a1, a2, a3⟩ := hp p (by simp)
    have hw := h.write a1 a2 a3
    have hl : layW (p :: M) f d = if (d.writeM (f + p.1) p.2).2 ≠ 0 then d.writeM (f + p.1) p.2 else layW M f (d.writeM (f + p.1) p.2).1 := rfl
    rw [hl]
    split
    · exact hw
    · exact ih hw fun q hq => hp q (by simp [hq])
theorem Wr.live {L : List (Int × List UInt8)} {f : Int} {s0 : List (List UInt8)} {pend : List (Int × List UInt8 × List UInt8)} (h : ∀ q ∈ pend, ∃ p ∈ L, q.1.toNat = (f + p.1).toNat ∧ q.2.2 = p.2) (keep : List Bool) : ∀ k, k ≤ pend.length → Mix L f s0 (liveF s0 pend keep k) := by
  intro k
  induction k with
  | zero => intro _; exact Mix.refl _ _ _
  | succ k ih =>
    intro hk
    have h1 := ih (by omega)
    rw [liveF_succ]
    split
    · obtain ⟨p, hp, e1, e2⟩ := h (pend.getD k noWrite) (by
        rw [← getD_lt pend k noWrite (by omega)]; exact List.getElem_mem _)
      rw [e1, e2]
      exact h1.set hp
    · exact h1
theorem Wr.crash {L : List (Int × List UInt8)} {f : Int} {s0 : List (List UInt8)} {d : DM} (h : Wr L f s0 d) (keep : List Bool) : Mix L f s0 (d.crashM keep).sec := by
  show Mix L f s0 (liveF (backM d.sec d.pend) d.pend keep d.pend.length)
  rw [h.back]
  exact Wr.live h.pd keep _ (Nat.le_refl _)
/-- the power goes on the way of what is laid, or behind it -/
theorem lay_crash {L : List (Int × List UInt8)} {f : Int} {d : DM} (hpd : d.pend = []) (hp : ∀ p ∈ L, 0 ≤ f + p.1 ∧ f + p.1 < (d.sec.length : Int)) (keep : List Bool) : Mix L f d.sec ((layM L f d).1.crashM keep).sec := by
  have h0 : Wr L f d.sec d := ⟨Mix.refl _ _ _, by rw [hpd]; rfl, by rw [hpd]; nofun⟩
  have h1 := h0.lays L fun p h => ⟨h, hp p h⟩
  unfold layM
  split
  · exact h1.crash keep
  · have e1 := pre_sec (layW L f d).1 0 true
    have e2 := pre_pend (layW L f d).1 0 true
    unfold DM.syncM
    split
    · show Mix L f d.sec (liveF ((layW L f d).1.pre 0 true).1.sec [] keep 0)
      rw [e1]; exact h1.mix
    · refine Wr.crash (d := ((layW L f d).1.pre 0 true).1) ⟨by rw [e1]; exact h1.mix, by rw [e1, e2]; exact h1.back, by rw [e2]; exact h1.pd⟩ keep
/-- of the sectors of one more frame some stand, and none else was touched -/
theorem torn_shows {sec sec' : List (List UInt8)} {t area : Nat} {fs : List (List UInt8)} {b : List UInt8} (h : Shows sec t area fs) (hrest : Rest sec t area fs) (hb : b.length ≤ 40000) (hr : sects b.length ≤ area - usedM fs)
    (hm : Mix (pairsM t fs.length b) ((2 + t % 2 * area + usedM fs : Nat) : Int) sec sec') : Shows sec' t area fs ∨ (Shows sec' t area (fs ++ [b]) ∧ Rest sec' t area (fs ++ [b])) := by
  have hu := h.used
  have hlen := h.len
  have hta := area_in (t := t) (area := area) trivial
  have hmix : ∀ j, sec'.getD j [] = sec.getD j [] ∨ ∃ i, i < sects b.length ∧ 2 + t % 2 * area + usedM fs + i = j ∧ sec'.getD j [] = partM t fs.length b i := fun j => by
    rcases hm.2 j with e | ⟨p, hp, e1, e2⟩
    · exact .inl e
    · obtain ⟨i, hi, rfl⟩ := List.mem_map.1 hp
      exact .inr ⟨i, List.mem_range.1 hi, by dsimp only at e1; omega, e2⟩
  have hfar : ∀ j, (∀ i, i < sects b.length → 2 + t % 2 * area + usedM fs + i ≠ j) → sec'.getD j [] = sec.getD j [] := fun j hj => by
    rcases hmix j with e | ⟨i, hi, e, _⟩
    · exact e
    · exact (hj i hi e).elim
  have hnext : ∀ j, j < area → Old (t + 2) (sec'.getD (2 + (t + 1) % 2 * area + j) []) := fun j hj => by
    rw [hfar _ (fun i hi => by
      have := areas_apart (t := t) (area := area) (i := usedM fs + i) (j := j) (by omega) hj
      omega)]
    exact h.next j hj
  by_cases hall : ∀ i, i < sects b.length → sec'.getD (2 + t % 2 * area + usedM fs + i) [] = partM t fs.length b i
  · refine .inr ?_
    have hrest2 : Rest sec' t area (fs ++ [b]) := fun j h1 h2 => by
      rw [usedM_snoc] at h1
      rw [hfar _ (fun i hi => by omega)]
      exact hrest j (by omega) h2
    refine ⟨⟨by rw [hm.1]; exact hlen, h.a4, h.am, h.tm, ?_, ?_, by simp, by rw [usedM_snoc]; omega, fun x hx => ?_, fun j hj => ?_, hrest2.stop h.tm, hnext⟩, hrest2⟩
    · rw [hfar _ (fun i hi => by omega)]; exact h.hd
    · rw [hfar _ (fun i hi => by omega)]; exact h.oth
    · rcases List.mem_append.1 hx with hx | hx
      · exact h.most x hx
      · rw [List.mem_singleton.1 hx]; exact hb
    · rw [usedM_snoc] at hj
      rw [laidM_snoc, Nat.zero_add]
      by_cases hlt : j < usedM fs
      · rw [hfar _ (fun i hi => by omega), h.fr j hlt, List.getD_eq_getElem?_getD, List.getD_eq_getElem?_getD, List.getElem?_append_left (by rw [laidM_len]; exact hlt)]
      · have e := hall (j - usedM fs) (by omega)
        rw [show 2 + t % 2 * area + usedM fs + (j - usedM fs) = 2 + t % 2 * area + j by omega] at e
        rw [e, List.getD_eq_getElem?_getD, List.getElem?_append_right (by rw [laidM_len]; omega), laidM_len, ← List.getD_eq_getElem?_getD, partsM_get _ _ _ (by omega)]
  · refine .inl ?_
    obtain ⟨i0, hi0, hne⟩ : ∃ i, i < sects b.length ∧ sec'.getD (2 + t % 2 * area + usedM fs + i) [] ≠ partM t fs.length b i := by
      apply Classical.byContradiction
      intro hn
      exact hall fun i hi => Classical.byContradiction fun hc => hn ⟨i, hi, hc⟩
    have hold0 : Old t (sec'.getD (2 + t % 2 * area + usedM fs + i0) []) := by
      rcases hmix (2 + t % 2 * area + usedM fs + i0) with e | ⟨i, hi, e1, e2⟩
      · rw [e, Nat.add_assoc]; exact hrest _ (by omega) (by omega)
      · obtain rfl : i = i0 := by omega
        exact (hne e2).elim
    refine ⟨by rw [hm.1]; exact hlen, h.a4, h.am, h.tm, ?_, ?_, h.ne, hu, h.most, fun j hj => ?_, ?_, hnext⟩
    · rw [hfar _ (fun i hi => by omega)]; exact h.hd
    · rw [hfar _ (fun i hi => by omega)]; exact h.oth
    · rw [hfar _ (fun i hi => by omega)]; exact h.fr j hj
    · have hget : ∀ j, usedM fs + j < area → ((areaS sec' t area).drop (usedM fs)).getD j [] = sec'.getD (2 + t % 2 * area + usedM fs + j) [] := fun j hj => by
        rw [List.getD_eq_getElem?_getD, List.getElem?_drop, ← List.getD_eq_getElem?_getD, areaS_get _ _ _ _ hj, ← Nat.add_assoc]
      have hsl : ((areaS sec' t area).drop (usedM fs)).length = area - usedM fs := by rw [List.length_drop, areaS_len]
      cases hs : standsM t fs.length ((areaS sec' t area).drop (usedM fs)) with
      | none => rfl
      | some b' =>
        exfalso
        have hc := stands_claims hs
        have h64 : ∀ x ∈ (areaS sec' t area).drop (usedM fs), x.length = 64 := fun x hx => by
          obtain ⟨j, hj, rfl⟩ := List.getElem_of_mem hx
          rw [hsl] at hj
          rw [getD_lt _ _ [], hget j (by omega)]
          rcases hmix (2 + t % 2 * area + usedM fs + j) with e | ⟨i, hi, e1, e2⟩
          · rw [e, Nat.add_assoc]; exact (hrest _ (by omega) (by omega)).len
          · rw [e2]; exact partM_len _ _ _ _
        obtain ⟨hb', hn'⟩ := claimed_some h64 hc
        rw [hsl] at hn'
        have hp : partsM t fs.length b' = ((areaS sec' t area).drop (usedM fs)).take (sects b'.length) := by
          unfold standsM at hs
          rw [hc] at hs
          dsimp only at hs
          split at hs
          · assumption
          · cases hs
        have hpj : ∀ j, j < sects b'.length → sec'.getD (2 + t % 2 * area + usedM fs + j) [] = partM t fs.length b' j := fun j hj => by
          have e := partsM_get t fs.length b' hj
          rw [hp, List.getD_eq_getElem?_getD, List.getElem?_take_of_lt hj, ← List.getD_eq_getElem?_getD, hget j (by omega)] at e
          exact e
        have hsame : ∀ j, j < sects b'.length → j < sects b.length ∧ partM t fs.length b' j = partM t fs.length b j := fun j hj => by
          rcases hmix (2 + t % 2 * area + usedM fs + j) with e | ⟨i, hi, e1, e2⟩
          · have ho : Old t (sec'.getD (2 + t % 2 * area + usedM fs + j) []) := by
              rw [e, Nat.add_assoc]; exact hrest _ (by omega) (by omega)
            exact (ho.not h.tm fs.length b' j hb' (hpj j hj)).elim
          · obtain rfl : i = j := by omega
            exact ⟨hi, (hpj i hj).symm.trans e2⟩
        have e0 := (hsame 0 (sects_pos _)).2
        have e1 := partB_n t fs.length 0 (sects b'.length) (bodyB (allB b') 0)
        have e2 := partB_n t fs.length 0 (sects b.length) (bodyB (allB b) 0)
        have e3 : partB t fs.length 0 (sects b'.length) (bodyB (allB b') 0) = partB t fs.length 0 (sects b.length) (bodyB (allB b) 0) := e0
        rw [e3, e2] at e1
        have n1 := num_hi 2 (sects b.length)
        rw [e1, num_hi] at n1
        have s1 := sects_most _ hb
        have s2 := sects_most _ hb'
        rw [Nat.mod_eq_of_lt (by omega : sects b'.length < 256 ^ 2), Nat.mod_eq_of_lt (by omega : sects b.length < 256 ^ 2)] at n1
        exact hold0.not h.tm fs.length b' i0 hb' (hpj i0 (by omega))
/-- an append on whose way the power goes, at the latest behind it: what stands on the disk -/
theorem append_torn {d : DM} {t area : Nat} {fs : List (List UInt8)} {b : List UInt8} (h : Lies d t area fs) (n : Int) (keep : List Bool) (hb : b.length ≤ 40000) (hr : sects b.length ≤ area - usedM fs) (C : DM) (hC : C = (layM (pairsM t fs.length b) ((2 + t % 2 * area + usedM fs : Nat) : Int) (d.armM n).1).1.crashM keep) :
    CalmS C (2 + 2 * area) ∧ C.pend = [] ∧ (Shows C.sec t area fs ∨ Shows C.sec t area (fs ++ [b])) := by
  have hu := h.shows.used
  have hta := area_in (t := t) (area := area) trivial
  have ea : (d.armM n).1.sec = d.sec ∧ (d.armM n).1.pend = d.pend := by
    unfold DM.armM
    split <;> exact ⟨rfl, rfl⟩
  have hin : ∀ p ∈ pairsM t fs.length b, 0 ≤ ((2 + t % 2 * area + usedM fs : Nat) : Int) + p.1 ∧ ((2 + t % 2 * area + usedM fs : Nat) : Int) + p.1 < (((d.armM n).1.sec.length : Nat) : Int) := by
    rw [ea.1, h.shows.len]
    exact pairs_in (by omega)
  have hm := lay_crash (d := (d.armM n).1) (by rw [ea.2]; exact h.pend) hin keep
  rw [← hC, ea.1] at hm
  refine ⟨⟨⟨by rw [hC]; rfl, by rw [hC]; rfl, by rw [hC]; rfl⟩, by rw [hm.1]; exact h.shows.len⟩, by rw [hC]; rfl, ?_⟩
  rcases torn_shows h.shows h.rest hb hr hm with h | h
  · exact .inl h
  · exact .inr h.1
/-- nothing was under way -/
theorem crash_lies {d : DM} {t area : Nat} {fs : List (List UInt8)} (h : Lies d t area fs) (n : Int) (keep : List Bool) (C : DM) (hC : C = (d.armM n).1.crashM keep) : CalmS C (2 + 2 * area) ∧ C.pend = [] ∧ Shows C.sec t area fs := by
  have ea : (d.armM n).1.sec = d.sec ∧ (d.armM n).1.pend = d.pend := by
    unfold DM.armM
    split <;> exact ⟨rfl, rfl⟩
  have hs : C.sec = d.sec := by
    rw [hC]
    show liveF (backM (d.armM n).1.sec (d.armM n).1.pend) (d.armM n).1.pend keep (d.armM n).1.pend.length = _
    rw [ea.1, ea.2, h.pend]
    rfl
  exact ⟨⟨⟨by rw [hC]; rfl, by rw [hC]; rfl, by rw [hC]; rfl⟩, by rw [hs]; exact h.shows.len⟩, by rw [hC]; rfl, by rw [hs]; exact h.shows⟩
end Go.Proofs.Yteemdjamgbbjhaa.Wl

/-
  What a torn checkpoint leaves on the disk (pure).
-/
namespace Go.Proofs.Yteemdjamgbbjhaa.Wl
set_option maxRecDepth 100000
open Go.Proofs.Yteemdjamgbbjhaa.Wd Go.Proofs.Yteemdjamgbbjhaa.Dsk

theorem write_ok {d : DM} {i : Int} {b : List UInt8} (h : (d.writeM i b).2 = 0) : (d.writeM i b).1.sec = d.sec.set i.toNat b := by
  unfold DM.writeM at h ⊢
  split at h
  · rename_i h0
    rw [if_pos h0]
    show (d.pre i true).1.sec.set i.toNat b = _
    rw [pre_sec]
  · rename_i h0
    exact (h0 h).elim
theorem layW_ok {f : Int} : ∀ (L : List (Int × List UInt8)) {d : DM}, (layW L f d).2 = 0 → (layW L f d).1.sec = secs L f d.sec
  | [], d, _ => rfl
  | p :: L, d, h => by
    have hl : layW (p :: L) f d = if (d.writeM (f + p.1) p.2).2 ≠ 0 then d.writeM (f + p.1) p.2 else layW L f (d.writeM (f + p.1) p.2).1 := rfl
    rw [hl] at h ⊢
    split at h
    · rename_i h0; exact (h0 h).elim
    · rename_i h0
      have h0' : (d.writeM (f + p.1) p.2).2 = 0 := by simpa using h0
      rw [if_neg h0, layW_ok L h, write_ok h0']
      rfl
theorem layM_ok {L : List (Int × List UInt8)} {f : Int} {d : DM} (h : (layM L f d).2 = 0) : (layM L f d).1.sec = secs L f d.sec ∧ (layM L f d).1.pend = [] := by
  unfold layM at h ⊢
  split at h
  · rename_i h0; exact (h0 h).elim
  · rename_i h0
    have h0' : (layW L f d).2 = 0 := by simpa using h0
    rw [if_neg h0]
    unfold DM.syncM at h ⊢
    split at h
    · rename_i h1
      rw [if_pos h1]
      refine ⟨?_, rfl⟩
      show ((layW L f d).1.pre 0 true).1.sec = _
      rw [pre_sec, layW_ok L h0']
    · rename_i h1; exact (h1 h).elim
/-- of the next turn's frame some stands, and nothing else was touched -/
theorem mix_next {sec sec' : List (List UInt8)} {t area : Nat} {fs : List (List UInt8)} {b : List UInt8} (h : Shows sec t area fs) (hb : b.length ≤ 40000) (hr : sects b.length ≤ area)
    (hl : sec'.length = sec.length) (hm : ∀ j, sec'.getD j [] = sec.getD j [] ∨ ∃ i, i < sects b.length ∧ 2 + (t + 1) % 2 * area + i = j ∧ sec'.getD j [] = partM (t + 1) 0 b i) : Shows sec' t area fs := by
  have hu := h.used
  have hfar : ∀ j, (∀ i, i < sects b.length → 2 + (t + 1) % 2 * area + i ≠ j) → sec'.getD j [] = sec.getD j [] := fun j hj => by
    rcases hm j with e | ⟨i, hi, e, _⟩
    · exact e
    · exact (hj i hi e).elim
  have ha : ∀ j, j < area → sec'.getD (2 + t % 2 * area + j) [] = sec.getD (2 + t % 2 * area + j) [] := fun j hj => hfar _ (fun i hi e => by
    have := areas_apart (t := t) (area := area) (i := j) (j := i) hj (by omega)
    omega)
  have hS : areaS sec' t area = areaS sec t area := List.map_congr_left fun j hj => ha j (List.mem_range.1 hj)
  refine ⟨by rw [hl]; exact h.len, h.a4, h.am, h.tm, ?_, ?_, h.ne, hu, h.most, fun j hj => ?_, by rw [hS]; exact h.stop, fun j hj => ?_⟩
  · rw [hfar _ (fun i hi => by omega)]; exact h.hd
  · rw [hfar _ (fun i hi => by omega)]; exact h.oth
  · rw [ha _ (by omega)]; exact h.fr j hj
  · rcases hm (2 + (t + 1) % 2 * area + j) with e | ⟨i, hi, _, e⟩
    · rw [e]; exact h.next j hj
    · exact .inr ⟨t + 1, 0, b, i, by omega, hb, hi, e⟩
theorem begin_secs {d : DM} {t area : Nat} {b : List UInt8} (hd : CalmS d (2 + 2 * area)) (hr : sects b.length ≤ area) :
    (beginM t area b d).1.sec = (secs (pairsM t 0 b) ((2 + t % 2 * area : Nat) : Int) d.sec).set (t % 2) (headB t area) := by
  have hta := area_in (t := t) (area := area) trivial
  have hin : ∀ p ∈ pairsM t 0 b, 0 ≤ ((2 + t % 2 * area : Nat) : Int) + p.1 ∧ ((2 + t % 2 * area : Nat) : Int) + p.1 < ((2 + 2 * area : Nat) : Int) := pairs_in (by omega)
  obtain ⟨q1, q2, q3⟩ := layM_calm (by omega) _ _ d hd hin
  have q4 := layM_secs (by omega) _ _ d hd hin
  have hin2 : ∀ p ∈ [((0 : Int), headB t area)], 0 ≤ ((t % 2 : Nat) : Int) + p.1 ∧ ((t % 2 : Nat) : Int) + p.1 < ((2 + 2 * area : Nat) : Int) := fun p hp => by
    rw [List.mem_singleton.1 hp]
    dsimp only
    omega
  have q5 := layM_secs (n := 2 + 2 * area) (by omega) _ _ (layM (pairsM t 0 b) ((2 + t % 2 * area : Nat) : Int) d).1 q2 hin2
  have he : beginM t area b d = layM [(0, headB t area)] ((t % 2 : Nat) : Int) (layM (pairsM t 0 b) ((2 + t % 2 * area : Nat) : Int) d).1 := by
    unfold beginM
    rw [if_neg (by rw [q1]; simp)]
  rw [← he, q4] at q5
  rw [q5]
  show ((secs _ _ _).set (((t % 2 : Nat) : Int) + 0).toNat _) = _
  rw [Int.add_zero, Int.toNat_natCast]
/-- a checkpoint on whose way the power goes, at the latest behind it: what stands on the disk -/
theorem begin_torn {d : DM} {t area : Nat} {fs : List (List UInt8)} {b : List UInt8} (h : Lies d t area fs) (ht : t + 1 < 4294967296) (hb : b.length ≤ 40000) (hr : sects b.length ≤ area) (n : Int) (keep : List Bool) (C : DM) (hC : C = (beginM (t + 1) area b (d.armM n).1).1.crashM keep) :
    CalmS C (2 + 2 * area) ∧ C.pend = [] ∧ (Shows C.sec t area fs ∨ Shows C.sec (t + 1) area [b]) := by
  have hlen := h.shows.len
  have h4 := h.shows.a4
  have hta := area_in (t := t + 1) (area := area) trivial
  have ea : (d.armM n).1.sec = d.sec ∧ (d.armM n).1.pend = d.pend := by
    unfold DM.armM
    split <;> exact ⟨rfl, rfl⟩
  obtain ⟨D0, hD0⟩ : ∃ D, (d.armM n).1 = D := ⟨_, rfl⟩
  rw [hD0] at ea hC
  have hin : ∀ p ∈ pairsM (t + 1) 0 b, 0 ≤ ((2 + (t + 1) % 2 * area : Nat) : Int) + p.1 ∧ ((2 + (t + 1) % 2 * area : Nat) : Int) + p.1 < ((D0.sec.length : Nat) : Int) := by
    rw [ea.1, hlen]
    exact pairs_in (by omega)
  have hcalm : ∀ s : List (List UInt8), C.sec = s → s.length = 2 + 2 * area → CalmS C (2 + 2 * area) := fun s hs hl => ⟨⟨by rw [hC]; rfl, by rw [hC]; rfl, by rw [hC]; rfl⟩, by rw [hs]; exact hl⟩
  have hpend : C.pend = [] := by rw [hC]; rfl
  unfold beginM at hC
  by_cases h1 : (layM (pairsM (t + 1) 0 b) ((2 + (t + 1) % 2 * area : Nat) : Int) D0).2 ≠ 0
  · rw [if_pos h1] at hC
    have hm := lay_crash (d := D0) (by rw [ea.2]; exact h.pend) hin keep
    rw [← hC, ea.1] at hm
    refine ⟨hcalm _ rfl (by rw [hm.1]; exact hlen), hpend, .inl (mix_next h.shows hb hr hm.1 fun j => ?_)⟩
    rcases hm.2 j with e | ⟨p, hp, e1, e2⟩
    · exact .inl e
    · obtain ⟨i, hi, rfl⟩ := List.mem_map.1 hp
      exact .inr ⟨i, List.mem_range.1 hi, by dsimp only at e1; omega, e2⟩
  · rw [if_neg h1] at hC
    obtain ⟨k1, k2⟩ := layM_ok (d := D0) (Decidable.not_not.1 h1)
    obtain ⟨D1, hD1⟩ : ∃ D, (layM (pairsM (t + 1) 0 b) ((2 + (t + 1) % 2 * area : Nat) : Int) D0).1 = D := ⟨_, rfl⟩
    rw [hD1] at hC k1 k2
    rw [ea.1] at k1
    have hl1 : D1.sec.length = 2 + 2 * area := by rw [k1, secs_len]; exact hlen
    have hm := lay_crash (L := [((0 : Int), headB (t + 1) area)]) (f := (((t + 1) % 2 : Nat) : Int)) (d := D1) k2 (fun p hp => by
      rw [List.mem_singleton.1 hp, hl1]
      dsimp only
      omega) keep
    rw [← hC] at hm
    have hlc : C.sec.length = 2 + 2 * area := by rw [hm.1]; exact hl1
    have hoth : ∀ j, j ≠ (t + 1) % 2 → C.sec.getD j [] = D1.sec.getD j [] := fun j hj => by
      rcases hm.2 j with e | ⟨p, hp, e1, _⟩
      · exact e
      · rw [List.mem_singleton.1 hp] at e1
        dsimp only at e1
        omega
    refine ⟨hcalm _ rfl hlc, hpend, ?_⟩
    have hat : C.sec.getD ((t + 1) % 2) [] = D1.sec.getD ((t + 1) % 2) [] ∨ C.sec.getD ((t + 1) % 2) [] = headB (t + 1) area := by
      rcases hm.2 ((t + 1) % 2) with e | ⟨p, hp, _, e2⟩
      · exact .inl e
      · rw [List.mem_singleton.1 hp] at e2
        exact .inr e2
    rcases hat with hat | hat
    · refine .inl (mix_next h.shows hb hr (by rw [hlc, hlen]) fun j => ?_)
      have e0 : C.sec.getD j [] = D1.sec.getD j [] := by
        by_cases hj : j = (t + 1) % 2
        · rw [hj]; exact hat
        · exact hoth j hj
      rw [e0, k1]
      by_cases hx : ∃ i, i < sects b.length ∧ 2 + (t + 1) % 2 * area + i = j
      · obtain ⟨i, hi, rfl⟩ := hx
        exact .inr ⟨i, hi, rfl, pairs_near hi (by omega)⟩
      · exact .inl (pairs_far fun i hi e => hx ⟨i, hi, e⟩)
    · refine .inr ?_
      have hS := begin_secs (t := t + 1) (b := b) h.calm hr
      have hE : C.sec = (beginM (t + 1) area b d).1.sec := by
        rw [hS]
        apply List.ext_getElem (by rw [hlc, List.length_set, secs_len]; exact hlen.symm)
        intro j h1 h2
        rw [getD_lt _ _ [] h1, getD_lt _ _ [] h2]
        by_cases hj : j = (t + 1) % 2
        · rw [hj, hat, List.getD_eq_getElem?_getD, List.getElem?_set_self (by rw [secs_len]; omega)]; rfl
        · rw [hoth j hj, k1, List.getD_eq_getElem?_getD, List.getD_eq_getElem?_getD, List.getElem?_set_ne (Ne.symm hj)]
      rw [hE]
      exact (check_lies h ht hb hr).2.shows
/-- of what is laid noughts over some is, and nothing else was touched -/
theorem mix_sweep {sec sec' : List (List UInt8)} {t area : Nat} {fs : List (List UInt8)} (h : Shows sec t area fs) (h64 : ∀ j, j < 2 + 2 * area → (sec.getD j []).length = 64) (hl : sec'.length = sec.length)
    (hm : ∀ j, sec'.getD j [] = sec.getD j [] ∨ ∃ i, usedM fs ≤ i ∧ i < area ∧ j = 2 + t % 2 * area + i ∧ sec'.getD j [] = nought) : Shows sec' t area fs := by
  have hu := h.used
  have hta := area_in (t := t) (area := area) trivial
  have hfar : ∀ j, (∀ i, usedM fs ≤ i → i < area → j ≠ 2 + t % 2 * area + i) → sec'.getD j [] = sec.getD j [] := fun j hj => by
    rcases hm j with e | ⟨i, h1, h2, e, _⟩
    · exact e
    · exact (hj i h1 h2 e).elim
  refine ⟨by rw [hl]; exact h.len, h.a4, h.am, h.tm, ?_, ?_, h.ne, hu, h.most, fun j hj => ?_, ?_, fun j hj => ?_⟩
  · rw [hfar _ (fun i _ _ => by omega)]; exact h.hd
  · rw [hfar _ (fun i _ _ => by omega)]; exact h.oth
  · rw [hfar _ (fun i _ _ => by omega)]; exact h.fr j hj
  · have hget : ∀ (s : List (List UInt8)) j, usedM fs + j < area → ((areaS s t area).drop (usedM fs)).getD j [] = s.getD (2 + t % 2 * area + (usedM fs + j)) [] := fun s j hj => by
      rw [List.getD_eq_getElem?_getD, List.getElem?_drop, ← List.getD_eq_getElem?_getD, areaS_get _ _ _ _ hj]
    have hsl : ∀ s : List (List UInt8), ((areaS s t area).drop (usedM fs)).length = area - usedM fs := fun s => by rw [List.length_drop, areaS_len]
    cases hs : standsM t fs.length ((areaS sec' t area).drop (usedM fs)) with
    | none => rfl
    | some b' =>
      exfalso
      have hc := stands_claims hs
      have h64' : ∀ x ∈ (areaS sec' t area).drop (usedM fs), x.length = 64 := fun x hx => by
        obtain ⟨j, hj, rfl⟩ := List.getElem_of_mem hx
        rw [hsl] at hj
        rw [getD_lt _ _ [], hget sec' j (by omega)]
        rcases hm (2 + t % 2 * area + (usedM fs + j)) with e | ⟨i, _, _, _, e⟩
        · rw [e]; exact h64 _ (by omega)
        · rw [e]; rfl
      obtain ⟨hb', hn'⟩ := claimed_some h64' hc
      rw [hsl] at hn'
      have hp : partsM t fs.length b' = ((areaS sec' t area).drop (usedM fs)).take (sects b'.length) := by
        unfold standsM at hs
        rw [hc] at hs
        dsimp only at hs
        split at hs
        · assumption
        · cases hs
      have hpj : ∀ j, j < sects b'.length → sec.getD (2 + t % 2 * area + (usedM fs + j)) [] = partM t fs.length b' j := fun j hj => by
        have e := partsM_get t fs.length b' hj
        rw [hp, List.getD_eq_getElem?_getD, List.getElem?_take_of_lt hj, ← List.getD_eq_getElem?_getD, hget sec' j (by omega)] at e
        rcases hm (2 + t % 2 * area + (usedM fs + j)) with e1 | ⟨i, _, _, _, e1⟩
        · rw [← e1]; exact e
        · rw [e1] at e
          have s2 := sects_most _ hb'
          exact (part_not_nought t fs.length j (sects b'.length) (bodyB (allB b') j) (sects_pos _) (by omega) e.symm).elim
      have hR : (areaS sec t area).drop (usedM fs) = partsM t fs.length b' ++ ((areaS sec t area).drop (usedM fs)).drop (sects b'.length) := by
        conv => lhs; rw [← List.take_append_drop (sects b'.length) ((areaS sec t area).drop (usedM fs))]
        congr 1
        apply List.ext_getElem (by rw [List.length_take, hsl, partsM_len]; omega)
        intro j h1 h2
        rw [partsM_len] at h2
        rw [getD_lt _ _ [] h1, getD_lt _ _ [] (by rw [partsM_len]; exact h2), partsM_get _ _ _ h2, ← hpj j h2, ← hget sec j (by omega), List.getD_eq_getElem?_getD, List.getElem?_take_of_lt h2, ← List.getD_eq_getElem?_getD]
      have := h.stop
      rw [hR, stands_parts t fs.length b' _ hb'] at this
      cases this
  · rw [hfar _ (fun i h1 h2 => by
      have := areas_apart (t := t) (area := area) (i := i) (j := j) (by omega) hj
      omega)]
    exact h.next j hj
/-- an Open on whose way the power may go: what it tells, and what a power cut leaves -/
theorem open_torn {d : DM} {t area : Nat} {fs : List (List UInt8)} (h1 : d.dead = false) (h2 : d.fs = false) (hp : d.pend = []) (h : Shows d.sec t area fs) (h64 : ∀ j, j < 2 + 2 * area → (d.sec.getD j []).length = 64) :
    ∃ d' e, openM d = (d', e, (t, area, fs)) ∧ (e = 0 → d'.pend = [] ∧ Shows d'.sec t area fs ∧ Clean d'.sec t area fs) ∧ ∀ keep, CalmS (d'.crashM keep) (2 + 2 * area) ∧ (d'.crashM keep).pend = [] ∧ Shows (d'.crashM keep).sec t area fs := by
  obtain ⟨o, ho⟩ := open_shape h1 h2 h
  have hu := h.used
  have hlen := h.len
  have hta := area_in (t := t) (area := area) trivial
  have hcr : ∀ (D : DM) keep, Shows (D.crashM keep).sec t area fs → CalmS (D.crashM keep) (2 + 2 * area) ∧ (D.crashM keep).pend = [] ∧ Shows (D.crashM keep).sec t area fs := fun D keep hS => ⟨⟨⟨rfl, rfl, rfl⟩, hS.len⟩, rfl, hS⟩
  have hR : ∀ i, i < area - usedM fs → ((areaS d.sec t area).drop (usedM fs)).getD i nought = d.sec.getD (2 + t % 2 * area + (usedM fs + i)) [] := fun i hi => by
    rw [← getD_lt _ i nought (by rw [List.length_drop, areaS_len]; exact hi), List.getElem_drop, getD_lt _ _ [] (by rw [areaS_len]; omega), areaS_get _ _ _ _ (by omega)]
  have hRl : ((areaS d.sec t area).drop (usedM fs)).length = area - usedM fs := by rw [List.length_drop, areaS_len]
  have hz : (∀ x ∈ (areaS d.sec t area).drop (usedM fs), x = nought) → Clean d.sec t area fs := fun hz j hj1 hj2 => by
    have hl : j - usedM fs < ((areaS d.sec t area).drop (usedM fs)).length := by rw [hRl]; omega
    have := hz _ (List.getElem_mem hl)
    rw [List.getElem_drop, getD_lt _ _ [] (by rw [areaS_len]; omega), areaS_get _ _ _ _ (by omega)] at this
    rw [← this]
    congr 1
    omega
  obtain ⟨R, hRe⟩ : ∃ R, (areaS d.sec t area).drop (usedM fs) = R := ⟨_, rfl⟩
  rw [hRe] at ho hR hRl hz
  refine ⟨_, _, ho, ?_⟩
  unfold sweepM
  by_cases hq : (∀ x ∈ R, x = nought) ∧ ({ d with ops := o } : DM).pend = []
  · rw [if_pos hq]
    refine ⟨fun _ => ⟨hp, h, hz hq.1⟩, fun keep => hcr _ keep ?_⟩
    have hs : (({ d with ops := o } : DM).crashM keep).sec = d.sec := by
      show liveF (backM d.sec d.pend) d.pend keep d.pend.length = _
      rw [hp]
      rfl
    rw [hs]
    exact h
  · rw [if_neg hq]
    have hin : ∀ p ∈ nfL R R.length, 0 ≤ ((2 + t % 2 * area + usedM fs : Nat) : Int) + p.1 ∧ ((2 + t % 2 * area + usedM fs : Nat) : Int) + p.1 < ((d.sec.length : Nat) : Int) := fun p hpm => by
      obtain ⟨i, hi, rfl, _⟩ := nfL_mem hpm
      rw [hRl] at hi
      dsimp only
      omega
    have hmix : ∀ sec', Mix (nfL R R.length) ((2 + t % 2 * area + usedM fs : Nat) : Int) d.sec sec' → Shows sec' t area fs := fun sec' hm => mix_sweep h h64 hm.1 fun j => by
      rcases hm.2 j with e | ⟨p, hpm, e1, e2⟩
      · exact .inl e
      · obtain ⟨i, hi, rfl, _⟩ := nfL_mem hpm
        rw [hRl] at hi
        dsimp only at e1
        exact .inr ⟨usedM fs + i, by omega, by omega, by omega, e2⟩
    refine ⟨fun he => ?_, fun keep => hcr _ keep (hmix _ (lay_crash (d := ({ d with ops := o } : DM)) hp hin keep))⟩
    obtain ⟨k1, k2⟩ := layM_ok he
    have k1' : (layM (nfL R R.length) ((2 + t % 2 * area + usedM fs : Nat) : Int) { d with ops := o }).1.sec = secs (nfL R R.length) ((2 + t % 2 * area + usedM fs : Nat) : Int) d.sec := k1
    have hfar : ∀ j, (∀ i, i < area - usedM fs → 2 + t % 2 * area + usedM fs + i ≠ j) → (secs (nfL R R.length) ((2 + t % 2 * area + usedM fs : Nat) : Int) d.sec).getD j [] = d.sec.getD j [] := fun j hj => secs_none _ j _ _ (fun p hpm => by
      obtain ⟨i, hi, rfl, _⟩ := nfL_mem hpm
      rw [hRl] at hi
      have := hj i hi
      dsimp only
      omega)
    have hnear : ∀ i, i < area - usedM fs → (secs (nfL R R.length) ((2 + t % 2 * area + usedM fs : Nat) : Int) d.sec).getD (2 + t % 2 * area + usedM fs + i) [] = nought := fun i hi => by
      refine secs_some _ _ nought _ _ (by omega) (fun p hpm _ => ?_) ?_
      · obtain ⟨i', _, rfl, _⟩ := nfL_mem hpm; rfl
      · by_cases hn : R.getD i nought = nought
        · right
          rw [← hn, hR i hi, Nat.add_assoc]
        · left
          exact ⟨_, nfL_has (by rw [hRl]; exact hi) hn, by dsimp only; omega⟩
    refine ⟨k2, ?_, fun j hj1 hj2 => ?_⟩
    · rw [k1']
      refine mix_sweep h h64 (secs_len _ _ _) fun j => ?_
      by_cases hx : ∃ i, i < area - usedM fs ∧ 2 + t % 2 * area + usedM fs + i = j
      · obtain ⟨i, hi, rfl⟩ := hx
        exact .inr ⟨usedM fs + i, by omega, by omega, by omega, hnear i hi⟩
      · exact .inl (hfar _ fun i hi e => hx ⟨i, hi, e⟩)
    · rw [k1']
      have := hnear (j - usedM fs) (by omega)
      rw [show 2 + t % 2 * area + usedM fs + (j - usedM fs) = 2 + t % 2 * area + j by omega] at this
      exact this
end Go.Proofs.Yteemdjamgbbjhaa.Wl

/-
  What an append or a checkpoint answers while the power may go, and what stands then (pure).
-/
namespace Go.Proofs.Yteemdjamgbbjhaa.Wl
set_option maxRecDepth 100000
open Go.Proofs.Yteemdjamgbbjhaa.Wd Go.Proofs.Yteemdjamgbbjhaa.Dsk

theorem pre_err {d : DM} {i : Int} {ch : Bool} (hf : d.fs = false) (h0 : 0 ≤ i) (h1 : i < (d.sec.length : Int)) : ((d.pre i ch).2 = 0 ∨ (d.pre i ch).2 = 9) ∧ (d.pre i ch).1.fs = false := by
  unfold DM.pre
  split
  · exact ⟨.inr rfl, hf⟩
  · split
    · omega
    · split
      · omega
      · split
        · rename_i h; rw [hf] at h; exact absurd h.1 (by decide)
        · dsimp only
          split
          · exact ⟨.inr rfl, hf⟩
          · exact ⟨.inl rfl, hf⟩
theorem write_err {d : DM} {i : Int} {b : List UInt8} (hf : d.fs = false) (h0 : 0 ≤ i) (h1 : i < (d.sec.length : Int)) : ((d.writeM i b).2 = 0 ∨ (d.writeM i b).2 = 9) ∧ (d.writeM i b).1.fs = false ∧ (d.writeM i b).1.sec.length = d.sec.length := by
  obtain ⟨e1, e2⟩ := pre_err (ch := true) hf h0 h1
  unfold DM.writeM
  split
  · refine ⟨.inl rfl, e2, ?_⟩
    show ((d.pre i true).1.sec.set i.toNat b).length = _
    rw [List.length_set, pre_sec]
  · exact ⟨e1, e2, by rw [pre_sec]⟩
theorem layW_err {n : Nat} {f : Int} : ∀ (L : List (Int × List UInt8)) {d : DM}, d.fs = false → d.sec.length = n → (∀ p ∈ L, 0 ≤ f + p.1 ∧ f + p.1 < (n : Int)) → ((layW L f d).2 = 0 ∨ (layW L f d).2 = 9) ∧ (layW L f d).1.fs = false ∧ (layW L f d).1.sec.length = n
  | [], d, hf, hn, _ => ⟨.inl rfl, hf, hn⟩
  | p :: L, d, hf, hn, hp => by
    obtain ⟨a1, a2⟩ := hp p (by simp)
    obtain ⟨w1, w2, w3⟩ := write_err (b := p.2) hf a1 (by rw [hn]; exact a2)
    have hl : layW (p :: L) f d = if (d.writeM (f + p.1) p.2).2 ≠ 0 then d.writeM (f + p.1) p.2 else layW L f (d.writeM (f + p.1) p.2).1 := rfl
    rw [hl]
    split
    · exact ⟨w1, w2, w3.trans hn⟩
    · exact layW_err L w2 (w3.trans hn) (fun q hq => hp q (by simp [hq]))
theorem layM_err {n : Nat} {f : Int} {L : List (Int × List UInt8)} {d : DM} (hf : d.fs = false) (hn : d.sec.length = n) (h0 : 0 < n) (hp : ∀ p ∈ L, 0 ≤ f + p.1 ∧ f + p.1 < (n : Int)) : ((layM L f d).2 = 0 ∨ (layM L f d).2 = 9) ∧ (layM L f d).1.fs = false ∧ (layM L f d).1.sec.length = n := by
  obtain ⟨a1, a2, a3⟩ := layW_err L hf hn hp
  unfold layM
  split
  · exact ⟨a1, a2, a3⟩
  · obtain ⟨e1, e2⟩ := pre_err (i := 0) (ch := true) a2 (by omega) (by rw [a3]; omega)
    unfold DM.syncM
    split
    · refine ⟨.inl rfl, e2, ?_⟩
      show ((layW L f d).1.pre 0 true).1.sec.length = n
      rw [pre_sec, a3]
    · exact ⟨e1, e2, by rw [pre_sec, a3]⟩
theorem crash_none {d : DM} (h : d.pend = []) (keep : List Bool) : (d.crashM keep).sec = d.sec := by
  show liveF (backM d.sec d.pend) d.pend keep d.pend.length = _
  rw [h]
  rfl
theorem arm_same (d : DM) (n : Int) : (d.armM n).1.sec = d.sec ∧ (d.armM n).1.pend = d.pend ∧ (d.armM n).1.fs = d.fs := by
  unfold DM.armM
  split <;> exact ⟨rfl, rfl, rfl⟩
/-- an append on whose way the power may go: what it answers, and what stands behind a power cut -/
theorem append_told {d : DM} {t area : Nat} {fs : List (List UInt8)} {b : List UInt8} (h : Lies d t area fs) (n : Int) (hb : b.length ≤ 40000) (hr : sects b.length ≤ area - usedM fs) (x : DM × Int) (hx : x = layM (pairsM t fs.length b) ((2 + t % 2 * area + usedM fs : Nat) : Int) (d.armM n).1) :
    (x.2 = 0 ∨ x.2 = 9) ∧ ∀ keep, CalmS (x.1.crashM keep) (2 + 2 * area) ∧ (x.1.crashM keep).pend = [] ∧ (x.2 = 9 ∧ Shows (x.1.crashM keep).sec t area fs ∨ Shows (x.1.crashM keep).sec t area (fs ++ [b])) := by
  obtain ⟨ea, ep, ef⟩ := arm_same d n
  have hu := h.shows.used
  have hlen := h.shows.len
  have h4 := h.shows.a4
  have hta := area_in (t := t) (area := area) trivial
  have hin : ∀ p ∈ pairsM t fs.length b, 0 ≤ ((2 + t % 2 * area + usedM fs : Nat) : Int) + p.1 ∧ ((2 + t % 2 * area + usedM fs : Nat) : Int) + p.1 < ((2 + 2 * area : Nat) : Int) := pairs_in (by omega)
  obtain ⟨e1, _, _⟩ := layM_err (d := (d.armM n).1) (by rw [ef]; exact h.calm.1.2.2) (by rw [ea]; exact hlen) (by omega) hin
  rw [← hx] at e1
  refine ⟨e1, fun keep => ?_⟩
  obtain ⟨c1, c2, c3⟩ := append_torn h n keep hb hr (x.1.crashM keep) (by rw [hx])
  refine ⟨c1, c2, ?_⟩
  rcases e1 with e1 | e1
  · right
    obtain ⟨k1, k2⟩ := layM_ok (L := pairsM t fs.length b) (f := ((2 + t % 2 * area + usedM fs : Nat) : Int)) (d := (d.armM n).1) (by rw [← hx]; exact e1)
    rw [← hx] at k1 k2
    have hl := (append_lies h hb hr).2.shows
    have q4 := layM_secs (by omega) ((2 + t % 2 * area + usedM fs : Nat) : Int) (pairsM t fs.length b) d h.calm hin
    rw [crash_none k2, k1, ea, ← q4]
    exact hl
  · rcases c3 with c3 | c3
    · exact .inl ⟨e1, c3⟩
    · exact .inr c3
/-- a checkpoint on whose way the power may go -/
theorem begin_told {d : DM} {t area : Nat} {fs : List (List UInt8)} {b : List UInt8} (h : Lies d t area fs) (ht : t + 1 < 4294967296) (hb : b.length ≤ 40000) (hr : sects b.length ≤ area) (n : Int) (x : DM × Int) (hx : x = beginM (t + 1) area b (d.armM n).1) :
    (x.2 = 0 ∨ x.2 = 9) ∧ ∀ keep, CalmS (x.1.crashM keep) (2 + 2 * area) ∧ (x.1.crashM keep).pend = [] ∧ (x.2 = 9 ∧ Shows (x.1.crashM keep).sec t area fs ∨ Shows (x.1.crashM keep).sec (t + 1) area [b]) := by
  obtain ⟨ea, ep, ef⟩ := arm_same d n
  have hlen := h.shows.len
  have h4 := h.shows.a4
  have hta := area_in (t := t + 1) (area := area) trivial
  have hin : ∀ p ∈ pairsM (t + 1) 0 b, 0 ≤ ((2 + (t + 1) % 2 * area : Nat) : Int) + p.1 ∧ ((2 + (t + 1) % 2 * area : Nat) : Int) + p.1 < ((2 + 2 * area : Nat) : Int) := pairs_in (by omega)
  have hin2 : ∀ p ∈ [((0 : Int), headB (t + 1) area)], 0 ≤ (((t + 1) % 2 : Nat) : Int) + p.1 ∧ (((t + 1) % 2 : Nat) : Int) + p.1 < ((2 + 2 * area : Nat) : Int) := fun p hp => by
    rw [List.mem_singleton.1 hp]
    dsimp only
    omega
  obtain ⟨e1, f1, l1⟩ := layM_err (d := (d.armM n).1) (by rw [ef]; exact h.calm.1.2.2) (by rw [ea]; exact hlen) (by omega) hin
  obtain ⟨e2, _, _⟩ := layM_err f1 l1 (by omega) hin2
  have hx2 : x.2 = 0 ∨ x.2 = 9 := by
    rw [hx]
    unfold beginM
    split
    · exact e1
    · exact e2
  refine ⟨hx2, fun keep => ?_⟩
  obtain ⟨c1, c2, c3⟩ := begin_torn h ht hb hr n keep (x.1.crashM keep) (by rw [hx])
  refine ⟨c1, c2, ?_⟩
  rcases hx2 with e | e
  · right
    rw [hx] at e
    have hS := begin_secs (t := t + 1) (b := b) h.calm hr
    have hE : (x.1.crashM keep).sec = (beginM (t + 1) area b d).1.sec := by
      rw [hS, hx]
      unfold beginM at e ⊢
      split at e
      · rename_i h1; exact (h1 e).elim
      · rename_i h1
        rw [if_neg h1]
        obtain ⟨k1, k2⟩ := layM_ok (d := (d.armM n).1) (Decidable.not_not.1 h1)
        obtain ⟨k3, k4⟩ := layM_ok e
        rw [crash_none k4, k3, k1, ea]
        show (secs _ _ _).set ((((t + 1) % 2 : Nat) : Int) + 0).toNat _ = _
        rw [Int.add_zero, Int.toNat_natCast]
    rw [hE]
    exact (check_lies h ht hb hr).2.shows
  · rcases c3 with c3 | c3
    · exact .inl ⟨e, c3⟩
    · exact .inr c3
end Go.Proofs.Yteemdjamgbbjhaa.Wl

/-
  slices.Backward over pending writes, by its contract.
-/
namespace Go.Proofs.Yteemdjamgbbjhaa.Dsk
open Go.RowKit Go.Proofs.Yteemdjamgbbjhaa.Wd

attribute [local go_sem] Oper.semAt_some

def OkW (m : Nat) (p : Int × List UInt8 × List UInt8) : Prop := 0 ≤ p.1 ∧ p.1 < (m : Int) ∧ p.2.1.length = 64 ∧ p.2.2.length = 64
/-- an index and a write that fits a disk of m sectors -/
abbrev IWr (m : Nat) := { q : Int × (Int × List UInt8 × List UInt8) // OkW m q.2 }
def encW {m : Nat} (x : IWr m) : Array Value := #[.int .i64 x.1.1, .agg (pcs x.1.2).toArray]
def upto {α : Type} (g : Nat → α) (k : Nat) : List α := (List.range k).map g
theorem upto_succ {α : Type} (g : Nat → α) (k : Nat) : upto g (k + 1) = upto g k ++ [g k] := by simp [upto, List.range_succ]
theorem upto_len {α : Type} (g : Nat → α) (k : Nat) : (upto g k).length = k := by simp [upto]
/-- blocks of K lie as they lay -/
def KeepB (K : Nat → Prop) (W W' : World) : Prop := ∀ k, K k → W'.heap[k]? = W.heap[k]?
theorem KeepB.trans {K : Nat → Prop} {A B C : World} (h : KeepB K A B) (k : KeepB K B C) : KeepB K A C := fun i hi => (k i hi).trans (h i hi)
theorem KeepB.cell {K : Nat → Prop} {W W' : World} {b o : Nat} {v : Value} (h : KeepB K W W') (hb : K b) (hc : W.cell? ⟨b, o, none⟩ = some v) : W'.cell? ⟨b, o, none⟩ = some v := (World.cell?_of_block (a := ⟨b, o, none⟩) (h b hb)).trans hc
theorem KeepB.range {K : Nat → Prop} {W W' : World} {b o : Nat} {cs : List Value} (h : KeepB K W W') (hb : K b) (hc : W.rangeAt b o cs) : W'.rangeAt b o cs := fun j v hj => h.cell hb (hc j v hj)

set_option maxRecDepth 100000 in
set_option maxHeartbeats 2000000 in
theorem back_in (l Bs n c m : Nat) (A : Option Addr) (ps : List (Int × List UInt8 × List UInt8)) (hn : n ≤ 1000000) (nn : Nat) (hnn : 1 ≤ nn) (g : Nat → IWr m) (hg : ∀ j, j < n → (g (n - (j + 1))).1 = ((j : Int), ps.getD j noWrite))
    (K : Nat → Prop) (hBs : K Bs) (J Jx : List (IWr m) → World → Prop)
    (hY : ∀ pre x W, J pre W → pre.length < n → YieldAt Fence.wide (nn - 1) Try.prog l (encW x) W fun e W' =>
      (e = .returned (.bool true) ∧ J (pre ++ [x]) W' ∧ KeepB K W W') ∨ (e = .returned (.bool false) ∧ Jx (pre ++ [x]) W'))
    (W : World) (hb : W.cell? ⟨Bs, 0, none⟩ = some (.slice A n c)) (hr : ∀ k, k < n → ∃ gp, A = some ⟨gp, 0, none⟩ ∧ K gp ∧ W.rangeAt gp (k * 129) (pcs (ps.getD k noWrite))) (h0 : J [] W) :
    CallsIn Fence.wide nn Try.prog 87 #[.func (.yield l) #[] #[], .pointer (some ⟨Bs, 0, none⟩)] W fun e W' => (∃ v, e = .returned v) ∧
      ((∃ ys, ys = upto g n ∧ J ys W') ∨ (∃ pre, True ∧ Jx pre W')) := by
  have HR := Lib.hid hr
  have HY := Lib.hid hY
  have HG := Lib.hid hg
  clear hr hY hg
  refine callsIn_of_wp Try.func87 rfl trivial ?_ rfl
  simp only [Try.ntmps87, List.size_toArray, List.length_cons, List.length_nil, Nat.reduceAdd, Nat.reduceSub, Array.replicate_succ, Array.replicate_zero, List.push_toArray, List.append_toArray, List.nil_append, List.cons_append]
  gi_wp2
  gi_loopw [3] (fun i wr => ∃ r : Nat, r ≤ n ∧ i = .int .i64 ((r : Int) - 1) ∧ J (upto g (n - r)) wr ∧ Hid (KeepB K W wr)) (fun i _ => (intOf i + 1).toNat)
  case atStart => exact ⟨n, Nat.le_refl _, rfl, by rw [Nat.sub_self]; exact h0, (show KeepB _ _ _ from fun _ _ => rfl)⟩
  case round =>
    obtain ⟨r, hrn, rfl, hJs, HK⟩ := hrel
    cases r with
    | zero =>
      gi_wp2
      go_end0
      exact ⟨⟨_, rfl⟩, .inl ⟨_, rfl, by simpa using hJs⟩⟩
    | succ j =>
      have ej : ((j + 1 : Nat) : Int) - 1 = (j : Int) := by omega
      rw [ej]
      have hjn : j < n := by omega
      obtain ⟨gp, rfl, hgp, hrg⟩ := HR.out j hjn
      have hrg2 := HK.out.range hgp hrg
      have hb2 := HK.out.cell hBs hb
      have hok : OkW m (ps.getD j noWrite) := by
        have := (g (n - (j + 1))).2
        rw [HG.out j hjn] at this
        exact this
      obtain ⟨fn, tmps, assign, body, hy, hR⟩ := HY.out _ (g (n - (j + 1))) wr hJs (by rw [upto_len]; omega)
      have hnj : n - j = (n - (j + 1)) + 1 := by omega
      have hup : upto g (n - j) = upto g (n - (j + 1)) ++ [g (n - (j + 1))] := by rw [hnj, upto_succ]
      unfold encW at hy
      rw [HG.out j hjn] at hy
      rw [← hup] at hR
      dsimp only at hy
      obtain ⟨p, hp⟩ : ∃ p, p = ps.getD j noWrite := ⟨_, rfl⟩
      rw [← hp] at hrg2 hy hok
      have HS := Lib.hid (show (Try.prog.info? 121).map (·.size) = some (pcs p).length by rw [pcs_len p hok.2.2.1 hok.2.2.2]; exact size81)
      have HRG := Lib.hid hrg2
      have hji : (j : Int) < (n : Int) := by omega
      clear hrg hrg2 hup hp hok hnj
      gi_wp2_with (first
        | (with_reducible refine wpListIn_load_mid (op := ⟨some 16, _, _, _, _, _⟩) ?_ 121 (.tmp 15) ?_ gp (j * 129) ?_ (pcs p) _ HRG.out Try.underlying121 ?_ HS.out ?_))
      all_goals try (first | rfl | (simp; done))
      gi_wp2
      refine hR.mono ?_
      rintro e W3 (⟨rfl, hJ3, hk3⟩ | ⟨rfl, hJx3⟩)
      · have HK3 := Lib.hid (HK.out.trans hk3)
        clear hk3 HK hR hy
        gi_wp2
        go_roundw
        case rel => exact ⟨j, by omega, by go_num, hJ3, HK3⟩
        case measure => simp [intOf]
      · gi_wp2
        refine bodyPost_ret (results_none rfl _ _ _) rfl ?_
        exact ⟨⟨_, rfl⟩, .inr ⟨_, trivial, hJx3⟩⟩

theorem backward_any (A : Option Addr) (n c : Nat) (w : World) : Calls Try.prog 67 #[.slice A n c] w fun e w' =>
    e = .returned (.func (.func 87) #[] #[.pointer (some ⟨w.heap.size, 0, none⟩)]) ∧ w' = w.alloc (.cells #[.slice A n c] 73) := by
  have hmf : ∀ (fn : Fn) (first cap : Array Value) (w : World), (Instr.makeFunc fn first cap).run Try.prog w = .ok (.func fn first cap) w := fun _ _ _ _ => rfl
  go_enter Try.func67, Try.ntmps67
  go_wp2
  go_ret
  exact ⟨rfl, rfl⟩
/-- the writes, each with its index, the last one first -/
theorem back_seq {m : Nat} (ps : List (Int × List UInt8 × List UInt8)) (hp : ∀ p ∈ ps, OkW m p) (hm : 0 < m) : ∃ g : Nat → IWr m, (∀ j, j < ps.length → (g (ps.length - (j + 1))).1 = ((j : Int), ps.getD j noWrite)) ∧ (upto g ps.length).map (fun x => x.1.2) = ps.reverse := by
  have : Inhabited (IWr m) := ⟨⟨(0, (0, nought, nought)), by refine ⟨Int.le_refl _, ?_, rfl, rfl⟩; show (0 : Int) < m; omega⟩⟩
  have each : ∀ i, i < ps.length → ∃ x : IWr m, x.1 = (((ps.length - 1 - i : Nat) : Int), ps.getD (ps.length - 1 - i) noWrite) := fun i hi => by
    have hk : ps.length - 1 - i < ps.length := by omega
    exact ⟨⟨(_, ps.getD (ps.length - 1 - i) noWrite), hp _ (by rw [List.getD_eq_getElem?_getD, List.getElem?_eq_getElem hk]; exact List.getElem_mem hk)⟩, rfl⟩
  obtain ⟨g, hg⟩ := Go.Deep.choose_lt each
  refine ⟨g, fun j hj => ?_, ?_⟩
  · have := hg (ps.length - (j + 1)) (by omega)
    rw [show ps.length - 1 - (ps.length - (j + 1)) = j by omega] at this
    exact this
  · apply List.ext_getElem
    · simp [upto]
    · intro i h1 h2
      have hi : i < ps.length := by simpa [upto] using h1
      have hk : ps.length - 1 - i < ps.length := by omega
      simp only [upto, List.getElem_map, List.getElem_range, List.getElem_reverse]
      rw [hg i hi]
      simp [List.getD_eq_getElem?_getD, hk]
end Go.Proofs.Yteemdjamgbbjhaa.Dsk
