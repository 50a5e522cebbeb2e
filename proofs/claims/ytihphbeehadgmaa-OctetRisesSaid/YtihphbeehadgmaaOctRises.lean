/-
  OctetRises: of two numbers the greater one's bytes are greater, byte by byte. No condition.
-/
import Derived.Test.YtihphbeehadgmaaOct3
import Derived.Test.YtihphbeehadgmaaOct6
import Derived.Test.YtihphbeehadgmaaLift
import Derived.Deep.RegionHeld
import Derived.WalkLawsBesides
namespace Go.Proofs.Ytihphbeehadgmaa.OctRises
open Go.ChangeShapes Go.WideShapes Go.ChangeAt Go.RowKit Go.Proofs.Ytihphbeehadgmaa.Wd Go.Proofs.Ytihphbeehadgmaa.Oct

set_option linter.unusedSimpArgs false
theorem own : ownKnob Try.prog.godebug = none := by kernel_rfl
theorem laidOut : laidOutB Try.prog = true := by kernel_rfl

theorem wpAnyH_mono {P : Program} {ops : Array Oper} {Q : Exit → Act → World → Prop} {md : Region.Mode} {S S' : World → Prop} (hSS : ∀ w, S' w → S w) :
    ∀ (fuel : Nat) (listed : Array Bool) (a : Act) (w : World), wpAnyH P md ops Q S' fuel listed a w → wpAnyH P md ops Q S fuel listed a w
  | 0, _, _, _, h => h
  | fuel + 1, _, _, _, h => ⟨h.1, fun i hi => wpOp_mono (fun a' w' h' => ⟨hSS _ h'.1, wpAnyH_mono hSS fuel _ a' w' h'.2⟩) (h.2 i hi)⟩

def bstr (l : List UInt8) : ByteArray := strOfNums (l.map fun b => (b.toNat : Int))

/-- what a call of Put64 (Put32) on no bytes leaves, as what its conversion to a string gives -/
def Str (w : World) (k : Nat) (s : ByteArray) (e : Ending) (w' : World) : Prop :=
  ∃ g, e = .returned (.slice (some ⟨g, 0, none⟩) k k) ∧ g < w'.heap.size ∧ (∀ w'', Below w'.heap.size w' w'' → (convert 22 9 (.slice (some ⟨g, 0, none⟩) k k)).run Try.prog w'' = .ok (.string s) w'') ∧ Below w.heap.size w w'

theorem str_of (w : World) (g k : Nat) (l : List UInt8) (hl : l.length = k) (h : Row w g 5 (bv l)) :
    (convert 22 9 (.slice (some ⟨g, 0, none⟩) k k)).run Try.prog w = .ok (.string (bstr l)) w := by
  refine run_convert_bytes_arg w 22 5 Try.underlying22 Try.underlying5 g 0 k k (l.map fun b => (b.toNat : Int)) (by simpa using hl) (fun i hi => ?_) 9 Try.underlying9
  rw [Nat.zero_add, h.cell]
  simp [bv, hl, hi]

theorem str_made (w : World) (l : List UInt8) (k : Nat) (hk : l.length = k) (e : Ending) (w' : World) (h : Made w l e w') : Str w k (bstr l) e w' := by
  obtain ⟨g, n, rfl, hl, hg, hr, hb⟩ := h
  obtain rfl : n = k := by rw [← hl.out, hk]
  exact ⟨g, rfl, hr.lt, fun w'' hb'' => str_of w'' g n l hk (hr.below hb'' hr.lt), hb⟩

theorem put64_str (x : Nat) (w : World) : Calls Try.prog 13 #[.slice none 0 0, .int .u64 (x : Int)] w (Str w 8 (bstr (hi 8 x))) :=
  (put64_any none [] 0 0 x w rfl (by omega) (Bs.nil _ _ _)).mono fun e w' h => str_made w (hi 8 x) 8 (hi_length _ _) e w' h
theorem put32_str (x : Nat) (w : World) (hx : (x : Int) < 4294967296) : Calls Try.prog 12 #[.slice none 0 0, .int .u32 (x : Int)] w (Str w 4 (bstr (hi 4 x))) :=
  (put32_any none [] 0 0 x w rfl (by omega) hx (Bs.nil _ _ _)).mono fun e w' h => str_made w (hi 4 x) 4 (hi_length _ _) e w' h

theorem bstr_list (l : List UInt8) : (bstr l).toList = l := by
  rw [ByteArray.toList_eq, bstr, strOfNums_data, List.map_map]
  conv => rhs; rw [← List.map_id l]
  refine List.map_congr_left fun b _ => ?_
  simp
theorem hi_less (n x y : Nat) : Op.bytesLess (hi n x) (hi n y) = decide (x % 256 ^ n < y % 256 ^ n) := by
  induction n with
  | zero => simp [hi, Op.bytesLess, Nat.mod_one]
  | succ n ih =>
    have hp : 0 < 256 ^ n := Nat.pow_pos (by omega)
    have ex : x % 256 ^ (n + 1) = x % 256 ^ n + 256 ^ n * (x / 256 ^ n % 256) := by rw [Nat.pow_succ, Nat.mod_mul]
    have ey : y % 256 ^ (n + 1) = y % 256 ^ n + 256 ^ n * (y / 256 ^ n % 256) := by rw [Nat.pow_succ, Nat.mod_mul]
    have lx := Nat.mod_lt x hp
    have ly := Nat.mod_lt y hp
    rw [hi, hi, Op.bytesLess, ih, ex, ey]
    have ha : ∀ a b : Nat, (UInt8.ofNat a < UInt8.ofNat b) ↔ a % 256 < b % 256 := fun a b => by
      rw [UInt8.lt_iff_toNat_lt]; simp
    have hb : ∀ a b : Nat, (UInt8.ofNat a = UInt8.ofNat b) ↔ a % 256 = b % 256 := fun a b => by
      rw [← UInt8.toNat_inj]; simp
    generalize x % 256 ^ n = u at lx ⊢
    generalize y % 256 ^ n = v at ly ⊢
    rw [Bool.eq_iff_iff]
    simp only [Bool.or_eq_true, Bool.and_eq_true, decide_eq_true_eq, beq_iff_eq, ha, hb]
    generalize x / 256 ^ n % 256 = a
    generalize y / 256 ^ n % 256 = b
    generalize 256 ^ n = p at *
    constructor
    · rintro (h | ⟨rfl, h⟩)
      · have : p * (a + 1) ≤ p * b := Nat.mul_le_mul_left _ h
        rw [Nat.mul_add] at this; omega
      · omega
    · intro h
      rcases Nat.lt_trichotomy a b with h1 | h1 | h1
      · exact .inl h1
      · subst h1; exact .inr ⟨rfl, by omega⟩
      · have : p * (b + 1) ≤ p * a := Nat.mul_le_mul_left _ h1
        rw [Nat.mul_add] at this; omega
theorem less64 (x y : Nat) (hx : InU64 x) (hy : InU64 y) : Op.bytesLess (bstr (hi 8 x)).toList (bstr (hi 8 y)).toList = decide (x < y) := by
  rw [bstr_list, bstr_list, hi_less, Nat.mod_eq_of_lt hx, Nat.mod_eq_of_lt hy]
theorem less32 (x y : Nat) : Op.bytesLess (bstr (hi 4 (x % 4294967296))).toList (bstr (hi 4 (y % 4294967296))).toList = decide (x % 4294967296 < y % 4294967296) := by
  have := hi_less 4 (x % 4294967296) (y % 4294967296)
  rw [bstr_list, bstr_list, this]
  simp

set_option maxHeartbeats 4000000 in
theorem walk (x y : Nat) (w : World) (hx : InU64 x) (hy : InU64 y) :
    Calls Try.prog 8 #[.int .u64 (x : Int), .int .u64 (y : Int)] w fun e w' => e = .returned (.bool true) ∧ Below w.heap.size w w' := by
  have e1 := less64 x y hx hy
  have c1 := put64_str x
  have c2 := put64_str y
  have ux : IntKind.u32.wrap (x : Int) = ((x % 4294967296 : Nat) : Int) := by rw [IntKind.wrap_u32']; simp
  have uy : IntKind.u32.wrap (y : Int) = ((y % 4294967296 : Nat) : Int) := by rw [IntKind.wrap_u32']; simp
  have lx : ((x % 4294967296 : Nat) : Int) < 4294967296 := by omega
  have ly : ((y % 4294967296 : Nat) : Int) < 4294967296 := by omega
  have c3 := fun w => put32_str (x % 4294967296) w lx
  have c4 := fun w => put32_str (y % 4294967296) w ly
  have e2 : Op.bytesLess (bstr (hi 4 (x % 4294967296))).toList (bstr (hi 4 (y % 4294967296))).toList = decide (IntKind.u32.wrap (x : Int) < IntKind.u32.wrap (y : Int)) := by
    rw [less32, ux, uy]; simp only [Int.ofNat_lt]
  simp only [← ux] at c3
  simp only [← uy] at c4
  clear ux uy
  generalize bstr (hi 8 x) = s1 at e1 c1
  generalize bstr (hi 8 y) = s2 at e1 c2
  generalize bstr (hi 4 (x % 4294967296)) = s3 at e2 c3
  generalize bstr (hi 4 (y % 4294967296)) = s4 at e2 c4
  have C1 := Lib.hid c1
  have C2 := Lib.hid c2
  have C3 := Lib.hid c3
  have C4 := Lib.hid c4
  clear c1 c2 c3 c4 lx ly
  go_enter Try.func8, Try.ntmps8
  go_wp2_with fail
  refine (wakes_any _).mono ?_
  rintro e w1 ⟨rfl, hb1⟩
  have B1 := Lib.hid hb1
  clear hb1
  go_wp2_with fail
  refine wp_region_held_drew (S := fun w' => Below w.heap.size w w') (by kernel_rfl) B1.out.drew (fun hHeld => ?_)
  refine wpAnyH_take (i := 0) (oi := ⟨some 7, _, _, _, _, _⟩) (v := ?v0) rfl (by kernel_rfl) (by kernel_rfl) (by kernel_rfl) (fun _ _ _ h => h) (Or.inl ⟨by rfl, ?y0⟩) hHeld ?r0
  case y0 =>
    intro w' hSw
    go_simp
    try with_reducible rfl
  try simp only [Act.put, List.setIfInBounds_toArray, List.set_cons_zero, List.set_cons_succ]
  refine wpAnyH_take (i := 3) (oi := ⟨some 10, _, _, _, _, _⟩) (v := ?v3) rfl (by kernel_rfl) (by kernel_rfl) (by kernel_rfl) (fun _ _ _ h => h) (Or.inl ⟨by rfl, ?y3⟩) hHeld ?r3
  case y3 =>
    intro w' hSw
    go_simp
    try with_reducible rfl
  try simp only [Act.put, List.setIfInBounds_toArray, List.set_cons_zero, List.set_cons_succ]
  refine wpAnyH_take (i := 7) (oi := ⟨some 14, _, _, _, _, _⟩) (v := ?v7) rfl (by kernel_rfl) (by kernel_rfl) (by kernel_rfl) (fun _ _ _ h => h) (Or.inl ⟨by rfl, ?y7⟩) hHeld ?r7
  case y7 =>
    intro w' hSw
    go_simp
    try with_reducible rfl
  try simp only [Act.put, List.setIfInBounds_toArray, List.set_cons_zero, List.set_cons_succ]
  refine wpAnyH_take (i := 8) (oi := ⟨some 15, _, _, _, _, _⟩) (v := ?v8) rfl (by kernel_rfl) (by kernel_rfl) (by kernel_rfl) (fun _ _ _ h => h) (Or.inl ⟨by rfl, ?y8⟩) hHeld ?r8
  case y8 =>
    intro w' hSw
    go_simp
    try with_reducible rfl
  try simp only [Act.put, List.setIfInBounds_toArray, List.set_cons_zero, List.set_cons_succ]
  refine wpAnyH_take (i := 9) (oi := ⟨some 16, _, _, _, _, _⟩) (v := ?v9) rfl (by kernel_rfl) (by kernel_rfl) (by kernel_rfl) (fun _ _ _ h => h) (Or.inl ⟨by rfl, ?y9⟩) hHeld ?r9
  case y9 =>
    intro w' hSw
    go_simp
    try with_reducible rfl
  try simp only [Act.put, List.setIfInBounds_toArray, List.set_cons_zero, List.set_cons_succ]
  refine wpAnyH_ready (rs := [1]) (by kernel_rfl) (by simp) ?_
  refine AllReadyH.cons rfl (fun K hK => ?_) AllReadyH.nil
  go_simp
  refine (C1.out _).mono ?_
  rintro e wx ⟨g1, rfl, _, hs1, b1⟩
  have HS1 := Lib.hid hs1
  clear hs1
  have hH1 : Below w.heap.size w wx := hHeld.trans (b1.mono hHeld.size)
  refine hK.out _ _ hH1 (fun _ => ?_)
  clear hK K b1
  refine wpAnyH_mono (S' := fun w' => Below wx.heap.size wx w') (fun w' h => hH1.trans (h.mono hH1.size)) _ _ _ _ ?_
  clear hHeld
  have hHeld : Below wx.heap.size wx wx := Below.refl _ _
  try simp only [Act.put, List.setIfInBounds_toArray, List.set_cons_zero, List.set_cons_succ]
  refine wpAnyH_take (i := 2) (oi := ⟨some 9, _, _, _, _, _⟩) (v := ?v2) rfl (by kernel_rfl) (by kernel_rfl) (by kernel_rfl) (fun _ _ _ h => h) (Or.inl ⟨by rfl, ?y2⟩) hHeld ?r2
  case y2 =>
    intro w' hSw
    have hcv := HS1.out w' hSw
    go_simp
    try with_reducible rfl
  try simp only [Act.put, List.setIfInBounds_toArray, List.set_cons_zero, List.set_cons_succ]
  refine wpAnyH_ready (rs := [4]) (by kernel_rfl) (by simp) ?_
  refine AllReadyH.cons rfl (fun K hK => ?_) AllReadyH.nil
  go_simp
  refine (C2.out _).mono ?_
  rintro e wy ⟨g2, rfl, _, hs2, b2⟩
  have HS2 := Lib.hid hs2
  clear hs2
  have hH2 : Below wx.heap.size wx wy := hHeld.trans (b2.mono hHeld.size)
  refine hK.out _ _ hH2 (fun _ => ?_)
  clear hK K b2
  refine wpAnyH_mono (S' := fun w' => Below wy.heap.size wy w') (fun w' h => hH2.trans (h.mono hH2.size)) _ _ _ _ ?_
  clear hHeld
  have hHeld : Below wy.heap.size wy wy := Below.refl _ _
  try simp only [Act.put, List.setIfInBounds_toArray, List.set_cons_zero, List.set_cons_succ]
  refine wpAnyH_take (i := 5) (oi := ⟨some 12, _, _, _, _, _⟩) (v := ?v5) rfl (by kernel_rfl) (by kernel_rfl) (by kernel_rfl) (fun _ _ _ h => h) (Or.inl ⟨by rfl, ?y5⟩) hHeld ?r5
  case y5 =>
    intro w' hSw
    have hcv := HS2.out w' hSw
    go_simp
    try with_reducible rfl
  try simp only [Act.put, List.setIfInBounds_toArray, List.set_cons_zero, List.set_cons_succ]
  refine wpAnyH_take (i := 6) (oi := ⟨some 13, _, _, _, _, _⟩) (v := ?v6) rfl (by kernel_rfl) (by kernel_rfl) (by kernel_rfl) (fun _ _ _ h => h) (Or.inl ⟨by rfl, ?y6⟩) hHeld ?r6
  case y6 =>
    intro w' hSw
    go_simp
    try with_reducible rfl
  try simp only [Act.put, List.setIfInBounds_toArray, List.set_cons_zero, List.set_cons_succ]
  refine wpAnyH_take (i := 10) (oi := ⟨some 17, _, _, _, _, _⟩) (v := ?v10) rfl (by kernel_rfl) (by kernel_rfl) (by kernel_rfl) (fun _ _ _ h => h) (Or.inl ⟨by rfl, ?y10⟩) hHeld ?r10
  case y10 =>
    intro w' hSw
    go_simp
    try with_reducible rfl
  try simp only [Act.put, List.setIfInBounds_toArray, List.set_cons_zero, List.set_cons_succ]
  refine wpAnyH_take (i := 11) (oi := ⟨some 18, _, _, _, _, _⟩) (v := ?v11) rfl (by kernel_rfl) (by kernel_rfl) (by kernel_rfl) (fun _ _ _ h => h) (Or.inl ⟨by rfl, ?y11⟩) hHeld ?r11
  case y11 =>
    intro w' hSw
    go_simp
    try with_reducible rfl
  try simp only [Act.put, List.setIfInBounds_toArray, List.set_cons_zero, List.set_cons_succ]
  refine wpAnyH_take (i := 12) (oi := ⟨some 19, _, _, _, _, _⟩) (v := ?v12) rfl (by kernel_rfl) (by kernel_rfl) (by kernel_rfl) (fun _ _ _ h => h) (Or.inl ⟨by rfl, ?y12⟩) hHeld ?r12
  case y12 =>
    intro w' hSw
    go_simp
    try with_reducible rfl
  try simp only [Act.put, List.setIfInBounds_toArray, List.set_cons_zero, List.set_cons_succ]
  refine wpAnyH_take (i := 13) (oi := ⟨some 20, _, _, _, _, _⟩) (v := ?v13) rfl (by kernel_rfl) (by kernel_rfl) (by kernel_rfl) (fun _ _ _ h => h) (Or.inl ⟨by rfl, ?y13⟩) hHeld ?r13
  case y13 =>
    intro w' hSw
    go_simp
    try with_reducible rfl
  try simp only [Act.put, List.setIfInBounds_toArray, List.set_cons_zero, List.set_cons_succ]
  refine wpAnyH_take (i := 16) (oi := ⟨some 23, _, _, _, _, _⟩) (v := ?v16) rfl (by kernel_rfl) (by kernel_rfl) (by kernel_rfl) (fun _ _ _ h => h) (Or.inl ⟨by rfl, ?y16⟩) hHeld ?r16
  case y16 =>
    intro w' hSw
    go_simp
    try with_reducible rfl
  try simp only [Act.put, List.setIfInBounds_toArray, List.set_cons_zero, List.set_cons_succ]
  refine wpAnyH_take (i := 17) (oi := ⟨some 24, _, _, _, _, _⟩) (v := ?v17) rfl (by kernel_rfl) (by kernel_rfl) (by kernel_rfl) (fun _ _ _ h => h) (Or.inl ⟨by rfl, ?y17⟩) hHeld ?r17
  case y17 =>
    intro w' hSw
    go_simp
    try with_reducible rfl
  try simp only [Act.put, List.setIfInBounds_toArray, List.set_cons_zero, List.set_cons_succ]
  refine wpAnyH_take (i := 21) (oi := ⟨some 28, _, _, _, _, _⟩) (v := ?v21) rfl (by kernel_rfl) (by kernel_rfl) (by kernel_rfl) (fun _ _ _ h => h) (Or.inl ⟨by rfl, ?y21⟩) hHeld ?r21
  case y21 =>
    intro w' hSw
    go_simp
    try with_reducible rfl
  try simp only [Act.put, List.setIfInBounds_toArray, List.set_cons_zero, List.set_cons_succ]
  refine wpAnyH_take (i := 22) (oi := ⟨some 29, _, _, _, _, _⟩) (v := ?v22) rfl (by kernel_rfl) (by kernel_rfl) (by kernel_rfl) (fun _ _ _ h => h) (Or.inl ⟨by rfl, ?y22⟩) hHeld ?r22
  case y22 =>
    intro w' hSw
    go_simp
    try with_reducible rfl
  try simp only [Act.put, List.setIfInBounds_toArray, List.set_cons_zero, List.set_cons_succ]
  refine wpAnyH_take (i := 23) (oi := ⟨some 30, _, _, _, _, _⟩) (v := ?v23) rfl (by kernel_rfl) (by kernel_rfl) (by kernel_rfl) (fun _ _ _ h => h) (Or.inl ⟨by rfl, ?y23⟩) hHeld ?r23
  case y23 =>
    intro w' hSw
    go_simp
    try with_reducible rfl
  try simp only [Act.put, List.setIfInBounds_toArray, List.set_cons_zero, List.set_cons_succ]
  refine wpAnyH_take (i := 24) (oi := ⟨some 31, _, _, _, _, _⟩) (v := ?v24) rfl (by kernel_rfl) (by kernel_rfl) (by kernel_rfl) (fun _ _ _ h => h) (Or.inl ⟨by rfl, ?y24⟩) hHeld ?r24
  case y24 =>
    intro w' hSw
    go_simp
    try with_reducible rfl
  try simp only [Act.put, List.setIfInBounds_toArray, List.set_cons_zero, List.set_cons_succ]
  refine wpAnyH_take (i := 25) (oi := ⟨some 32, _, _, _, _, _⟩) (v := ?v25) rfl (by kernel_rfl) (by kernel_rfl) (by kernel_rfl) (fun _ _ _ h => h) (Or.inl ⟨by rfl, ?y25⟩) hHeld ?r25
  case y25 =>
    intro w' hSw
    go_simp
    try with_reducible rfl
  try simp only [Act.put, List.setIfInBounds_toArray, List.set_cons_zero, List.set_cons_succ]
  refine wpAnyH_ready (rs := [14]) (by kernel_rfl) (by simp) ?_
  refine AllReadyH.cons rfl (fun K hK => ?_) AllReadyH.nil
  go_simp
  refine (C3.out _).mono ?_
  rintro e wz ⟨g3, rfl, _, hs3, b3⟩
  have HS3 := Lib.hid hs3
  clear hs3
  have hH3 : Below wy.heap.size wy wz := hHeld.trans (b3.mono hHeld.size)
  refine hK.out _ _ hH3 (fun _ => ?_)
  clear hK K b3
  refine wpAnyH_mono (S' := fun w' => Below wz.heap.size wz w') (fun w' h => hH3.trans (h.mono hH3.size)) _ _ _ _ ?_
  clear hHeld
  have hHeld : Below wz.heap.size wz wz := Below.refl _ _
  try simp only [Act.put, List.setIfInBounds_toArray, List.set_cons_zero, List.set_cons_succ]
  refine wpAnyH_take (i := 15) (oi := ⟨some 22, _, _, _, _, _⟩) (v := ?v15) rfl (by kernel_rfl) (by kernel_rfl) (by kernel_rfl) (fun _ _ _ h => h) (Or.inl ⟨by rfl, ?y15⟩) hHeld ?r15
  case y15 =>
    intro w' hSw
    have hcv := HS3.out w' hSw
    go_simp
    try with_reducible rfl
  try simp only [Act.put, List.setIfInBounds_toArray, List.set_cons_zero, List.set_cons_succ]
  refine wpAnyH_ready (rs := [18]) (by kernel_rfl) (by simp) ?_
  refine AllReadyH.cons rfl (fun K hK => ?_) AllReadyH.nil
  go_simp
  refine (C4.out _).mono ?_
  rintro e wu ⟨g4, rfl, _, hs4, b4⟩
  have HS4 := Lib.hid hs4
  clear hs4
  have hH4 : Below wz.heap.size wz wu := hHeld.trans (b4.mono hHeld.size)
  refine hK.out _ _ hH4 (fun _ => ?_)
  clear hK K b4
  refine wpAnyH_mono (S' := fun w' => Below wu.heap.size wu w') (fun w' h => hH4.trans (h.mono hH4.size)) _ _ _ _ ?_
  clear hHeld
  have hHeld : Below wu.heap.size wu wu := Below.refl _ _
  try simp only [Act.put, List.setIfInBounds_toArray, List.set_cons_zero, List.set_cons_succ]
  refine wpAnyH_take (i := 19) (oi := ⟨some 26, _, _, _, _, _⟩) (v := ?v19) rfl (by kernel_rfl) (by kernel_rfl) (by kernel_rfl) (fun _ _ _ h => h) (Or.inl ⟨by rfl, ?y19⟩) hHeld ?r19
  case y19 =>
    intro w' hSw
    have hcv := HS4.out w' hSw
    go_simp
    try with_reducible rfl
  try simp only [Act.put, List.setIfInBounds_toArray, List.set_cons_zero, List.set_cons_succ]
  refine wpAnyH_take (i := 20) (oi := ⟨some 27, _, _, _, _, _⟩) (v := ?v20) rfl (by kernel_rfl) (by kernel_rfl) (by kernel_rfl) (fun _ _ _ h => h) (Or.inl ⟨by rfl, ?y20⟩) hHeld ?r20
  case y20 =>
    intro w' hSw
    go_simp
    try with_reducible rfl
  try simp only [Act.put, List.setIfInBounds_toArray, List.set_cons_zero, List.set_cons_succ]
  refine wpAnyH_take (i := 26) (oi := ⟨some 33, _, _, _, _, _⟩) (v := ?v26) rfl (by kernel_rfl) (by kernel_rfl) (by kernel_rfl) (fun _ _ _ h => h) (Or.inl ⟨by rfl, ?y26⟩) hHeld ?r26
  case y26 =>
    intro w' hSw
    go_simp
    try with_reducible rfl
  try simp only [Act.put, List.setIfInBounds_toArray, List.set_cons_zero, List.set_cons_succ]
  refine wpAnyH_take (i := 27) (oi := ⟨some 34, _, _, _, _, _⟩) (v := ?v27) rfl (by kernel_rfl) (by kernel_rfl) (by kernel_rfl) (fun _ _ _ h => h) (Or.inl ⟨by rfl, ?y27⟩) hHeld ?r27
  case y27 =>
    intro w' hSw
    go_simp
    try with_reducible rfl
  try simp only [Act.put, List.setIfInBounds_toArray, List.set_cons_zero, List.set_cons_succ]
  refine wpAnyH_take (i := 28) (oi := ⟨some 4, _, _, _, _, _⟩) (v := ?v28) rfl (by kernel_rfl) (by kernel_rfl) (by kernel_rfl) (fun _ _ _ h => h) (Or.inl ⟨by rfl, ?y28⟩) hHeld ?r28
  case y28 =>
    intro w' hSw
    go_simp
    try with_reducible rfl
  try simp only [Act.put, List.setIfInBounds_toArray, List.set_cons_zero, List.set_cons_succ]
  refine wpAnyH_done (by kernel_rfl) ?_ _
  go_wp2
  go_ret
  exact ⟨rfl, hH1.trans ((hH2.mono hH1.size).trans (((hH3.mono hH2.size).trans ((hH4.mono hH3.size).mono hH2.size)).mono hH1.size))⟩

theorem resT_OctetRises : Try.f8.resultTypes = #[4] := by kernel_rfl
set_option maxRecDepth 100000 in
theorem lifted_OctetRises (os : Os) (started : os.Started) (H : Type) (enc : TypeId × Value → H) :
    ReturnsInHanded {} Try.checked os 8 .any (Rows.octetRisesSpec.pre6 enc Try.prog Try.f8 Rows.octetRisesRow.domain false) (Rows.octetRisesSpec.post enc Try.prog Try.f8 false true false false) := by
  refine Lift.law_lift (C := Try.checked) (s := Rows.octetRisesSpec) (tb := 4) own laidOut started (by kernel_rfl) Try.func8
    (ChangeSpec.witness6 (enc := enc) (C := Try.checked) false ⟨#[], #[.int .u64 0, .int .u64 0], []⟩ 8 (by kernel_rfl) (by kernel_rfl) (by kernel_rfl) (by kernel_rfl))
    rfl resT_OctetRises Try.underlying4 (by
      have hr : ∀ t ∈ ([23, 23] : List TypeId), Try.prog.readableRec t = true ∧ t < Try.prog.types.size := by
        intro t ht
        simp only [List.mem_cons, List.not_mem_nil, or_false] at ht
        rcases ht with rfl | rfl <;> exact ⟨by kernel_rfl, of_decide_eq_true (by kernel_rfl)⟩
      intro t ht
      exact hr t (by
        have ht' : t ∈ Try.f8.params.toList := ht
        rw [Try.params8] at ht'
        exact ht')) ?_
  intro W base args ds p hval0 hA0 hsz0
  have hval : ∀ (j : Nat) t v, Try.f8.params[j]? = some t → args[j]? = some v → Value.okWide Try.prog W .any base t v := hval0
  have hA : DataW.TrodAll enc Try.prog W 0 (fun _ => true) true Try.f8.params.toList args.toList ds p := hA0
  have hsz : (DataW.weightsEach Try.prog Try.f8.params.toList ds).all (· ≤ reachBytes) = true := hsz0
  clear hval0 hA0 hsz0
  rw [Try.params8] at hA hval hsz
  obtain ⟨v0, vs0, d0, ds0, p0, q0, hargs, rfl, rfl, h0, r0⟩ := trodAll_cons hA
  obtain ⟨v1, vs1, d1, ds1, p1, q1, rfl, rfl, rfl, h1, r1⟩ := trodAll_cons r0
  obtain ⟨rfl, rfl, rfl⟩ := trodAll_nil r1
  obtain rfl : args = #[v0, v1] := by cases args; simp_all
  obtain ⟨a0, rfl, rfl, rfl, w0⟩ := open_int Try.underlying23 (hval 0 23 v0 rfl rfl) h0
  obtain ⟨a1, rfl, rfl, rfl, w1⟩ := open_int Try.underlying23 (hval 1 23 v1 rfl rfl) h1
  have ha0 : 0 ≤ a0 ∧ a0 ≤ 18446744073709551615 := by simpa [Lit.wf, IntKind.min, IntKind.max, IntKind.signed, IntKind.bits] using w0
  have ha1 : 0 ≤ a1 ∧ a1 ≤ 18446744073709551615 := by simpa [Lit.wf, IntKind.min, IntKind.max, IntKind.signed, IntKind.bits] using w1
  obtain ⟨x, rfl⟩ := Int.eq_ofNat_of_zero_le ha0.1
  obtain ⟨y, rfl⟩ := Int.eq_ofNat_of_zero_le ha1.1
  have hx : InU64 x := (show x < 18446744073709551616 by omega)
  have hy : InU64 y := (show y < 18446744073709551616 by omega)
  exact ⟨rfl, walk x y W hx hy⟩

theorem proved_OctetRises : Rows.OctetRisesSaid :=
  OpenClaim.holds_of_wide 8 Try.f8 rfl rfl rfl rfl rfl rfl rfl ⟨rfl, rfl, rfl, rfl, rfl⟩ rfl rfl rfl rfl rfl (by kernel_rfl) Try.func8 (by kernel_rfl)
    (of_decide_eq_true (by kernel_rfl)) (by unfold Func.isWrapper; first | (rw [if_pos (by decide +kernel)]; kernel_rfl) | (rw [if_neg (by decide +kernel)]; exact ⟨rfl, rfl⟩))
    (fun os started H enc _ => lifted_OctetRises os started H enc)
end Go.Proofs.Ytihphbeehadgmaa.OctRises
