/-
  Pages held against one another: Same, the reference's Same, bytes.Equal.
-/
import Derived.Test.YtnljhopikjkflaaDoorPgP
import Derived.OrdersHeld
import Derived.Laws.BytesArg
import Derived.WideShapes
namespace Go.Proofs.YtnljhopikjkflaaDoor.Pg
set_option maxRecDepth 100000
open Go.RowKit Go.Proofs.YtnljhopikjkflaaDoor.Wd Go.Proofs.YtnljhopikjkflaaDoor.Oct Go.Proofs.YtnljhopikjkflaaDoor.Dsk Go.Proofs.YtnljhopikjkflaaDoor.Rec Go.Proofs.YtnljhopikjkflaaDoor.Sum Go.Proofs.YtnljhopikjkflaaDoor.Sm

def bstr (l : List UInt8) : ByteArray := strOfNums (l.map fun b => (b.toNat : Int))
theorem bstr_list (l : List UInt8) : (bstr l).toList = l := by
  rw [ByteArray.toList_eq, bstr, strOfNums_data, List.map_map]
  conv => rhs; rw [← List.map_id l]
  refine List.map_congr_left fun b _ => ?_
  simp
theorem bstr_inj {a b : List UInt8} : bstr a = bstr b ↔ a = b := ⟨fun h => by rw [← bstr_list a, h, bstr_list], fun h => by rw [h]⟩
theorem conv_zero {P : Program} (w : World) (src e : TypeId) (hs : P.underlying src = some (.slice e)) (he : P.underlying e = some (.int .u8)) (p : Option Addr) (c : Nat) (dst : TypeId) (hd : P.underlying dst = some .string) :
    (convert src dst (.slice p 0 c)).run P w = .ok (.string (bstr [])) w := by
  rw [run_convert_bytes_string w src dst e _ 0 c hs he hd]
  cases p <;> simp [Conv.bytesToString, loadCells]
  all_goals rfl
theorem conv_any (w : World) (B : Nat) (A : Option Addr) (n c : Nat) (l : List UInt8) (hl : l.length = n) (h : Bs w B A l) :
    (convert 23 9 (.slice A n c)).run Tryd.prog w = .ok (.string (bstr l)) w := by
  rcases Nat.eq_zero_or_pos n with hn | hn
  · subst hn
    obtain rfl : l = [] := List.eq_nil_of_length_eq_zero hl
    exact conv_zero w 23 5 Tryd.underlying23 Tryd.underlying5 A c 9 Tryd.underlying9
  · obtain ⟨b, o, rfl, _, hc⟩ := h (by omega)
    refine run_convert_bytes_arg w 23 5 Tryd.underlying23 Tryd.underlying5 b o n c (l.map fun b => (b.toNat : Int)) (by simpa using hl) (fun i hi => ?_) 9 Tryd.underlying9
    rw [hc i (by omega)]
    have hi' : i < l.length := by omega
    simp [hi']
theorem bytesEq_any (A1 A2 : Option Addr) (n1 c1 n2 c2 : Nat) (l1 l2 : List UInt8) (B1 B2 : Nat) (w : World) (h1 : l1.length = n1) (h2 : l2.length = n2) (b1 : Bs w B1 A1 l1) (b2 : Bs w B2 A2 l2) :
    Calls Tryd.prog 12 #[.slice A1 n1 c1, .slice A2 n2 c2] w fun e w' => e = .returned (.bool (decide (l1 = l2))) ∧ w = w' := by
  have k1 := conv_any w B1 A1 n1 c1 l1 h1 b1
  have k2 := conv_any w B2 A2 n2 c2 l2 h2 b2
  clear h1 h2 b1 b2
  have HI := Lib.hid (bstr_inj (a := l1) (b := l2))
  go_enter Tryd.func12, Tryd.ntmps12
  go_wp2
  go_ret
  refine ⟨ret_bool ?_, rfl⟩
  rw [Bool.eq_iff_iff, decide_eq_true_eq, ← HI.out]
  simp
  rw [bstr_list, bstr_list, HI.out]
/-- the four slots are the same -/
def eq4 (f g : Nat → List UInt8) : Bool := decide (f 0 = g 0) && decide (f 1 = g 1) && decide (f 2 = g 2) && decide (f 3 = g 3)
theorem eq4_iff {f g : Nat → List UInt8} : eq4 f g = true ↔ ∀ k, k < 4 → f k = g k := by
  unfold eq4
  simp only [Bool.and_eq_true, decide_eq_true_eq]
  refine ⟨fun h k hk => ?_, fun h => ⟨⟨⟨h 0 (by omega), h 1 (by omega)⟩, h 2 (by omega)⟩, h 3 (by omega)⟩⟩
  match k, hk with
  | 0, _ => exact h.1.1.1
  | 1, _ => exact h.1.1.2
  | 2, _ => exact h.1.2
  | 3, _ => exact h.2
def sameM (n1 : Int) (l1 : Nat) (f : Nat → List UInt8) (n2 : Int) (l2 : Nat) (g : Nat → List UInt8) : Bool := decide (n1 = n2) && decide (l1 = l2) && eq4 f g
set_option maxHeartbeats 1000000 in
theorem equalFunc_any (g1 g2 : Nat) (t1 t2 : TypeId) (n1 n2 : Int) (l1 l2 : Nat) (s1 s2 : PS) (f1 f2 : Nat → List UInt8) (B1 B2 : Nat) (w : World) (hr1 : Row w g1 t1 (pcs n1 l1 s1)) (hr2 : Row w g2 t2 (pcs n2 l2 s2)) (h1 : PgAt w B1 f1 s1) (h2 : PgAt w B2 f2 s2) (hm : ∀ k, k < 4 → s1.n k ≤ 140737488355336) :
    Calls Tryd.prog 23 #[.slice (some ⟨g1, 2, none⟩) 4 4, .slice (some ⟨g2, 2, none⟩) 4 4, .func (.func 21) #[] #[]] w fun e w' => e = .returned (.bool (eq4 f1 f2)) ∧ w = w' := by
  have HC1 := Lib.hid (fun k (hk : k < 4) => pcs_cell hr1 k hk)
  have HC2 := Lib.hid (fun k (hk : k < 4) => pcs_cell hr2 k hk)
  have HEQ := Lib.hid (fun k (hk : k < 4) => equal_n (s1.A k) (s2.A k) (f1 k) (f2 k) (s1.c k) (s2.c k) (s1.n k) (s2.n k) w (h1 k hk).len (h2 k hk).len (hm k hk) B1 B2 (h1 k hk).bs (h2 k hk).bs)
  have HI := Lib.hid (eq4_iff (f := f1) (g := f2))
  generalize eq4 f1 f2 = V at HI ⊢
  clear hr1 hr2 h1 h2 hm
  go_enter Tryd.func23, Tryd.ntmps23
  go_wp2_with fail
  go_loopw [6, 17] (fun r i wr => ∃ k : Nat, k ≤ 4 ∧ i = .int .i64 (k : Int) ∧ r = .bool false ∧ Hid ((∀ j, j < k → f1 j = f2 j) ∧ w = wr)) (fun _ i _ => 4 - (intOf i).toNat)
  case atStart => exact ⟨0, by omega, rfl, rfl, ⟨fun j h => by omega, rfl⟩⟩
  case round =>
    obtain ⟨k, hk, rfl, rfl, HR⟩ := hrel
    obtain rfl := HR.out.2
    have HJ := Lib.hid HR.out.1
    clear HR
    by_cases hlt : k < 4
    · have hq1 : (k : Int) < 4 := by omega
      have hc1 := HC1.out k hlt
      have hc2 := HC2.out k hlt
      go_wp2_with fail
      refine (HEQ.out k hlt).mono ?_
      rintro e w2 ⟨rfl, rfl⟩
      by_cases hz : f1 k = f2 k
      · have HZ : Hid (∀ j, j < k + 1 → f1 j = f2 j) := Lib.hid fun j hj => by
          rcases Nat.lt_succ_iff_lt_or_eq.1 hj with h | h
          · exact HJ.out j h
          · rw [h]; exact hz
        rw [show decide (f1 k = f2 k) = true by simp [hz]]
        clear hz hc1 hc2
        go_wp2
        go_roundw
        case rel => exact ⟨k + 1, by omega, by go_num, rfl, ⟨HZ.out, by trivial⟩⟩
        case measure => simp [intOf]; omega
      · have HZ := Lib.hid hz
        rw [show decide (f1 k = f2 k) = false by simp [hz]]
        clear hz hc1 hc2
        go_wp2
        go_ret
        refine ⟨ret_bool ?_, rfl⟩
        cases V
        · rfl
        · exact absurd (HI.out.1 rfl k hlt) HZ.out
    · have hq1 : ¬ (k : Int) < 4 := by omega
      go_wp2
      go_ret
      exact ⟨ret_bool (HI.out.2 fun j hj => HJ.out j (by omega)).symm, rfl⟩

/-- two pages in boxes of their own -/
structure Bx2 (w : World) (n1 : Int) (l1 : Nat) (s1 : PS) (n2 : Int) (l2 : Nat) (s2 : PS) (w' : World) : Prop where
  ra : Row w' w.heap.size 26 (pcs n1 l1 s1)
  rb : Row w' (w.heap.size + 1) 26 (pcs n2 l2 s2)
  hb : Below w.heap.size w w'
  sz : w.heap.size + 1 + 1 ≤ w'.heap.size
theorem boxed2 (w : World) (n1 : Int) (l1 : Nat) (s1 : PS) (n2 : Int) (l2 : Nat) (s2 : PS) : Bx2 w n1 l1 s1 n2 l2 s2 ((w.alloc (.cells (pcs n1 l1 s1).toArray 26)).alloc (.cells (pcs n2 l2 s2).toArray 26)) := by
  refine ⟨(Row.new w _ _).alloc _, ?_, ((Below.refl _ _).alloc (Nat.le_refl _) _).alloc (by simp) _, by simp⟩
  have := Row.new (w.alloc (.cells (pcs n1 l1 s1).toArray 26)) 26 (pcs n2 l2 s2)
  rwa [World.size_alloc] at this
theorem Bx2.then {w w1 w2 : World} {n1 n2 : Int} {l1 l2 : Nat} {s1 s2 : PS} (h : Bx2 w n1 l1 s1 n2 l2 s2 w1) (hb : Below w1.heap.size w1 w2) : Bx2 w n1 l1 s1 n2 l2 s2 w2 :=
  ⟨h.ra.below hb (by have := h.sz; omega), h.rb.below hb (by have := h.sz; omega), h.hb.trans (hb.mono h.hb.size), Nat.le_trans h.sz hb.size⟩
set_option maxHeartbeats 2000000 in
theorem psame_any (n1 : Int) (l1 : Nat) (s1 : PS) (f1 : Nat → List UInt8) (n2 : Int) (l2 : Nat) (s2 : PS) (f2 : Nat → List UInt8) (B : Nat) (w : World) (h1 : PgAt w B f1 s1) (h2 : PgAt w B f2 s2) (hB : B ≤ w.heap.size) (hm : ∀ k, k < 4 → s1.n k ≤ 140737488355336) :
    Calls Tryd.prog 10 #[.agg (pcs n1 l1 s1).toArray, .agg (pcs n2 l2 s2).toArray] w fun e w' => e = .returned (.bool (sameM n1 l1 f1 n2 l2 f2)) ∧ Below w.heap.size w w' := by
  have mixed : Tryd.prog.follows .mixedOrders = true := by kernel_rfl
  have HH1 := Lib.hid h1
  have HH2 := Lib.hid h2
  have HM := Lib.hid hm
  clear h1 h2 hm
  obtain ⟨V, hV⟩ : ∃ V, V = sameM n1 l1 f1 n2 l2 f2 := ⟨_, rfl⟩
  rw [← hV]
  have HV := Lib.hid hV
  clear hV
  unfold pcs
  go_enter Tryd.func10, Tryd.ntmps10
  go_upto_region 1 with fail
  have HB := Lib.hid (boxed2 w n1 l1 s1 n2 l2 s2)
  unfold pcs at HB
  generalize (w.alloc (.cells #[.int .i64 n1, .int .u64 (l1 : Int), .slice (s1.A 0) (s1.n 0) (s1.c 0), .slice (s1.A 1) (s1.n 1) (s1.c 1), .slice (s1.A 2) (s1.n 2) (s1.c 2), .slice (s1.A 3) (s1.n 3) (s1.c 3)] 26)).alloc (.cells #[.int .i64 n2, .int .u64 (l2 : Int), .slice (s2.A 0) (s2.n 0) (s2.c 0), .slice (s2.A 1) (s2.n 1) (s2.c 1), .slice (s2.A 2) (s2.n 2) (s2.c 2), .slice (s2.A 3) (s2.n 3) (s2.c 3)] 26) = w1 at HB ⊢
  have HEQ : Hid (∀ W, Still w1 W → Calls Tryd.prog 23 #[.slice (some ⟨w.heap.size, 2, none⟩) 4 4, .slice (some ⟨w.heap.size + 1, 2, none⟩) 4 4, .func (.func 21) #[] #[]] W fun e w' => e = .returned (.bool (eq4 f1 f2)) ∧ W = w') := by
    rintro W ⟨q, rfl⟩
    exact equalFunc_any w.heap.size (w.heap.size + 1) 26 26 n1 n2 l1 l2 s1 s2 f1 f2 B B _ (HB.out.ra.drewN q) (HB.out.rb.drewN q) (HH1.out.below (below_still (HB.out.hb.mono hB) ⟨q, rfl⟩)) (HH2.out.below (below_still (HB.out.hb.mono hB) ⟨q, rfl⟩)) HM.out
  have ha0 : w1.cell? ⟨w.heap.size, 0, none⟩ = some (.int .i64 n1) := HB.out.ra.cell 0
  have ha1 : w1.cell? ⟨w.heap.size, 1, none⟩ = some (.int .u64 (l1 : Int)) := HB.out.ra.cell 1
  have hb0 : w1.cell? ⟨w.heap.size + 1, 0, none⟩ = some (.int .i64 n2) := HB.out.rb.cell 0
  have hb1 : w1.cell? ⟨w.heap.size + 1, 1, none⟩ = some (.int .u64 (l2 : Int)) := HB.out.rb.cell 1
  clear HH1 HH2 HM
  by_cases hn : n1 = n2
  case neg =>
    have hnb : (n1 == n2) = false := by simp [hn]
    have HVF : Hid (V = false) := (show _ = _ by rw [HV.out]; unfold sameM; simp [hn])
    clear hn HEQ HV
    refine wp_region_held_drew (S := fun w' => w'.cell? ⟨w.heap.size, 0, none⟩ = some (.int .i64 n1) ∧ w'.cell? ⟨w.heap.size + 1, 0, none⟩ = some (.int .i64 n2) ∧ w'.cell? ⟨w.heap.size, 1, none⟩ = some (.int .u64 (l1 : Int)) ∧ w'.cell? ⟨w.heap.size + 1, 1, none⟩ = some (.int .u64 (l2 : Int))) (by kernel_rfl) ⟨ha0, hb0, ha1, hb1⟩ (fun hHeld => ?_)
    refine wpAnyH_take (i := 0) (oi := ⟨some 5, _, _, _, _, _⟩) (v := ?v0c0) rfl (by kernel_rfl) (by kernel_rfl) (by kernel_rfl) (fun _ _ _ h => h) (Or.inl ⟨by rfl, ?y0c0⟩) hHeld ?r0c0
    case y0c0 =>
      rintro w' hSw
      go_simp
      try with_reducible rfl
    try simp only [Act.put, List.setIfInBounds_toArray, List.set_cons_zero, List.set_cons_succ]
    refine wpAnyH_take (i := 1) (oi := ⟨some 6, _, _, _, _, _⟩) (v := ?v1c0) rfl (by kernel_rfl) (by kernel_rfl) (by kernel_rfl) (fun _ _ _ h => h) (Or.inl ⟨by rfl, ?y1c0⟩) hHeld ?r1c0
    case y1c0 =>
      rintro w' hSw
      obtain ⟨ca, cb, cc, cd⟩ := hSw
      go_simp
      try with_reducible rfl
    try simp only [Act.put, List.setIfInBounds_toArray, List.set_cons_zero, List.set_cons_succ]
    refine wpAnyH_take (i := 2) (oi := ⟨some 7, _, _, _, _, _⟩) (v := ?v2c0) rfl (by kernel_rfl) (by kernel_rfl) (by kernel_rfl) (fun _ _ _ h => h) (Or.inl ⟨by rfl, ?y2c0⟩) hHeld ?r2c0
    case y2c0 =>
      rintro w' hSw
      go_simp
      try with_reducible rfl
    try simp only [Act.put, List.setIfInBounds_toArray, List.set_cons_zero, List.set_cons_succ]
    refine wpAnyH_take (i := 3) (oi := ⟨some 8, _, _, _, _, _⟩) (v := ?v3c0) rfl (by kernel_rfl) (by kernel_rfl) (by kernel_rfl) (fun _ _ _ h => h) (Or.inl ⟨by rfl, ?y3c0⟩) hHeld ?r3c0
    case y3c0 =>
      rintro w' hSw
      obtain ⟨ca, cb, cc, cd⟩ := hSw
      go_simp
      try with_reducible rfl
    try simp only [Act.put, List.setIfInBounds_toArray, List.set_cons_zero, List.set_cons_succ]
    refine wpAnyH_take (i := 4) (oi := ⟨some 9, _, _, _, _, _⟩) (v := ?v4c0) rfl (by kernel_rfl) (by kernel_rfl) (by kernel_rfl) (fun _ _ _ h => h) (Or.inl ⟨by rfl, ?y4c0⟩) hHeld ?r4c0
    case y4c0 =>
      rintro w' hSw
      go_simp
      try with_reducible rfl
    try simp only [Act.put, List.setIfInBounds_toArray, List.set_cons_zero, List.set_cons_succ]
    refine wpAnyH_take (i := 5) (oi := ⟨some 10, _, _, _, _, _⟩) (v := ?v5c0) rfl (by kernel_rfl) (by kernel_rfl) (by kernel_rfl) (fun _ _ _ h => h) (Or.inl ⟨by rfl, ?y5c0⟩) hHeld ?r5c0
    case y5c0 =>
      rintro w' hSw
      go_simp
      try with_reducible rfl
    try simp only [Act.put, List.setIfInBounds_toArray, List.set_cons_zero, List.set_cons_succ]
    refine wpAnyH_take (i := 6) (oi := ⟨some 11, _, _, _, _, _⟩) (v := undef) rfl (by kernel_rfl) (by kernel_rfl) (by kernel_rfl) (fun _ _ _ h => h) (Or.inr ⟨by rfl, rfl⟩) hHeld ?r6c0
    try simp only [Act.put, List.setIfInBounds_toArray, List.set_cons_zero, List.set_cons_succ]
    refine wpAnyH_take (i := 7) (oi := ⟨some 12, _, _, _, _, _⟩) (v := undef) rfl (by kernel_rfl) (by kernel_rfl) (by kernel_rfl) (fun _ _ _ h => h) (Or.inr ⟨by rfl, rfl⟩) hHeld ?r7c0
    try simp only [Act.put, List.setIfInBounds_toArray, List.set_cons_zero, List.set_cons_succ]
    refine wpAnyH_take (i := 8) (oi := ⟨some 13, _, _, _, _, _⟩) (v := undef) rfl (by kernel_rfl) (by kernel_rfl) (by kernel_rfl) (fun _ _ _ h => h) (Or.inr ⟨by rfl, rfl⟩) hHeld ?r8c0
    try simp only [Act.put, List.setIfInBounds_toArray, List.set_cons_zero, List.set_cons_succ]
    refine wpAnyH_take (i := 9) (oi := ⟨some 14, _, _, _, _, _⟩) (v := undef) rfl (by kernel_rfl) (by kernel_rfl) (by kernel_rfl) (fun _ _ _ h => h) (Or.inr ⟨by rfl, rfl⟩) hHeld ?r9c0
    try simp only [Act.put, List.setIfInBounds_toArray, List.set_cons_zero, List.set_cons_succ]
    refine wpAnyH_take (i := 10) (oi := ⟨some 15, _, _, _, _, _⟩) (v := undef) rfl (by kernel_rfl) (by kernel_rfl) (by kernel_rfl) (fun _ _ _ h => h) (Or.inr ⟨by rfl, rfl⟩) hHeld ?r10c0
    try simp only [Act.put, List.setIfInBounds_toArray, List.set_cons_zero, List.set_cons_succ]
    refine wpAnyH_take (i := 11) (oi := ⟨some 16, _, _, _, _, _⟩) (v := ?v11c0) rfl (by kernel_rfl) (by kernel_rfl) (by kernel_rfl) (fun _ _ _ h => h) (Or.inl ⟨by rfl, ?y11c0⟩) hHeld ?r11c0
    case y11c0 =>
      rintro w' hSw
      go_simp
      try with_reducible rfl
    try simp only [Act.put, List.setIfInBounds_toArray, List.set_cons_zero, List.set_cons_succ]
    refine wpAnyH_take (i := 12) (oi := ⟨some 17, _, _, _, _, _⟩) (v := ?v12c0) rfl (by kernel_rfl) (by kernel_rfl) (by kernel_rfl) (fun _ _ _ h => h) (Or.inl ⟨by rfl, ?y12c0⟩) hHeld ?r12c0
    case y12c0 =>
      rintro w' hSw
      go_simp
      try with_reducible rfl
    try simp only [Act.put, List.setIfInBounds_toArray, List.set_cons_zero, List.set_cons_succ]
    refine wpAnyH_take (i := 13) (oi := ⟨some 18, _, _, _, _, _⟩) (v := undef) rfl (by kernel_rfl) (by kernel_rfl) (by kernel_rfl) (fun _ _ _ h => h) (Or.inr ⟨by rfl, rfl⟩) hHeld ?r13c0
    try simp only [Act.put, List.setIfInBounds_toArray, List.set_cons_zero, List.set_cons_succ]
    refine wpAnyH_take (i := 14) (oi := ⟨some 19, _, _, _, _, _⟩) (v := undef) rfl (by kernel_rfl) (by kernel_rfl) (by kernel_rfl) (fun _ _ _ h => h) (Or.inr ⟨by rfl, rfl⟩) hHeld ?r14c0
    try simp only [Act.put, List.setIfInBounds_toArray, List.set_cons_zero, List.set_cons_succ]
    refine wpAnyH_take (i := 15) (oi := ⟨some 20, _, _, _, _, _⟩) (v := undef) rfl (by kernel_rfl) (by kernel_rfl) (by kernel_rfl) (fun _ _ _ h => h) (Or.inr ⟨by rfl, rfl⟩) hHeld ?r15c0
    try simp only [Act.put, List.setIfInBounds_toArray, List.set_cons_zero, List.set_cons_succ]
    refine wpAnyH_take (i := 16) (oi := ⟨some 21, _, _, _, _, _⟩) (v := undef) rfl (by kernel_rfl) (by kernel_rfl) (by kernel_rfl) (fun _ _ _ h => h) (Or.inr ⟨by rfl, rfl⟩) hHeld ?r16c0
    try simp only [Act.put, List.setIfInBounds_toArray, List.set_cons_zero, List.set_cons_succ]
    refine wpAnyH_take (i := 17) (oi := ⟨some 22, _, _, _, _, _⟩) (v := undef) rfl (by kernel_rfl) (by kernel_rfl) (by kernel_rfl) (fun _ _ _ h => h) (Or.inr ⟨by rfl, rfl⟩) hHeld ?r17c0
    try simp only [Act.put, List.setIfInBounds_toArray, List.set_cons_zero, List.set_cons_succ]
    refine wpAnyH_take (i := 18) (oi := ⟨some 23, _, _, _, _, _⟩) (v := ?v18c0) rfl (by kernel_rfl) (by kernel_rfl) (by kernel_rfl) (fun _ _ _ h => h) (Or.inl ⟨by rfl, ?y18c0⟩) hHeld ?r18c0
    case y18c0 =>
      rintro w' hSw
      go_simp
      try with_reducible rfl
    try simp only [Act.put, List.setIfInBounds_toArray, List.set_cons_zero, List.set_cons_succ]
    refine wpAnyH_take (i := 19) (oi := ⟨some 4, _, _, _, _, _⟩) (v := ?v19c0) rfl (by kernel_rfl) (by kernel_rfl) (by kernel_rfl) (fun _ _ _ h => h) (Or.inl ⟨by rfl, ?y19c0⟩) hHeld ?r19c0
    case y19c0 =>
      rintro w' hSw
      go_simp
      try with_reducible rfl
    try simp only [Act.put, List.setIfInBounds_toArray, List.set_cons_zero, List.set_cons_succ]
    refine wpAnyH_done (by kernel_rfl) ?_ _
    go_wp2
    go_ret
    exact ⟨ret_bool (by rw [HVF.out]), (below_still HB.out.hb ⟨1, rfl⟩)⟩
  have HN := Lib.hid hn
  have hnb : (n1 == n2) = true := by simp [hn]
  clear hn
  by_cases hl : l1 = l2
  case neg =>
    have hlb : ((l1 : Int) == (l2 : Int)) = false := by simp; omega
    have HVF : Hid (V = false) := (show _ = _ by rw [HV.out]; unfold sameM; simp [hl])
    clear hl HEQ HV
    refine wp_region_held_drew (S := fun w' => w'.cell? ⟨w.heap.size, 0, none⟩ = some (.int .i64 n1) ∧ w'.cell? ⟨w.heap.size + 1, 0, none⟩ = some (.int .i64 n2) ∧ w'.cell? ⟨w.heap.size, 1, none⟩ = some (.int .u64 (l1 : Int)) ∧ w'.cell? ⟨w.heap.size + 1, 1, none⟩ = some (.int .u64 (l2 : Int))) (by kernel_rfl) ⟨ha0, hb0, ha1, hb1⟩ (fun hHeld => ?_)
    refine wpAnyH_take (i := 0) (oi := ⟨some 5, _, _, _, _, _⟩) (v := ?v0c1) rfl (by kernel_rfl) (by kernel_rfl) (by kernel_rfl) (fun _ _ _ h => h) (Or.inl ⟨by rfl, ?y0c1⟩) hHeld ?r0c1
    case y0c1 =>
      rintro w' hSw
      go_simp
      try with_reducible rfl
    try simp only [Act.put, List.setIfInBounds_toArray, List.set_cons_zero, List.set_cons_succ]
    refine wpAnyH_take (i := 1) (oi := ⟨some 6, _, _, _, _, _⟩) (v := ?v1c1) rfl (by kernel_rfl) (by kernel_rfl) (by kernel_rfl) (fun _ _ _ h => h) (Or.inl ⟨by rfl, ?y1c1⟩) hHeld ?r1c1
    case y1c1 =>
      rintro w' hSw
      obtain ⟨ca, cb, cc, cd⟩ := hSw
      go_simp
      try with_reducible rfl
    try simp only [Act.put, List.setIfInBounds_toArray, List.set_cons_zero, List.set_cons_succ]
    refine wpAnyH_take (i := 2) (oi := ⟨some 7, _, _, _, _, _⟩) (v := ?v2c1) rfl (by kernel_rfl) (by kernel_rfl) (by kernel_rfl) (fun _ _ _ h => h) (Or.inl ⟨by rfl, ?y2c1⟩) hHeld ?r2c1
    case y2c1 =>
      rintro w' hSw
      go_simp
      try with_reducible rfl
    try simp only [Act.put, List.setIfInBounds_toArray, List.set_cons_zero, List.set_cons_succ]
    refine wpAnyH_take (i := 3) (oi := ⟨some 8, _, _, _, _, _⟩) (v := ?v3c1) rfl (by kernel_rfl) (by kernel_rfl) (by kernel_rfl) (fun _ _ _ h => h) (Or.inl ⟨by rfl, ?y3c1⟩) hHeld ?r3c1
    case y3c1 =>
      rintro w' hSw
      obtain ⟨ca, cb, cc, cd⟩ := hSw
      go_simp
      try with_reducible rfl
    try simp only [Act.put, List.setIfInBounds_toArray, List.set_cons_zero, List.set_cons_succ]
    refine wpAnyH_take (i := 4) (oi := ⟨some 9, _, _, _, _, _⟩) (v := ?v4c1) rfl (by kernel_rfl) (by kernel_rfl) (by kernel_rfl) (fun _ _ _ h => h) (Or.inl ⟨by rfl, ?y4c1⟩) hHeld ?r4c1
    case y4c1 =>
      rintro w' hSw
      go_simp
      try with_reducible rfl
    try simp only [Act.put, List.setIfInBounds_toArray, List.set_cons_zero, List.set_cons_succ]
    refine wpAnyH_take (i := 5) (oi := ⟨some 10, _, _, _, _, _⟩) (v := ?v5c1) rfl (by kernel_rfl) (by kernel_rfl) (by kernel_rfl) (fun _ _ _ h => h) (Or.inl ⟨by rfl, ?y5c1⟩) hHeld ?r5c1
    case y5c1 =>
      rintro w' hSw
      go_simp
      try with_reducible rfl
    try simp only [Act.put, List.setIfInBounds_toArray, List.set_cons_zero, List.set_cons_succ]
    refine wpAnyH_take (i := 6) (oi := ⟨some 11, _, _, _, _, _⟩) (v := ?v6c1) rfl (by kernel_rfl) (by kernel_rfl) (by kernel_rfl) (fun _ _ _ h => h) (Or.inl ⟨by rfl, ?y6c1⟩) hHeld ?r6c1
    case y6c1 =>
      rintro w' hSw
      go_simp
      try with_reducible rfl
    try simp only [Act.put, List.setIfInBounds_toArray, List.set_cons_zero, List.set_cons_succ]
    refine wpAnyH_take (i := 7) (oi := ⟨some 12, _, _, _, _, _⟩) (v := ?v7c1) rfl (by kernel_rfl) (by kernel_rfl) (by kernel_rfl) (fun _ _ _ h => h) (Or.inl ⟨by rfl, ?y7c1⟩) hHeld ?r7c1
    case y7c1 =>
      rintro w' hSw
      obtain ⟨ca, cb, cc, cd⟩ := hSw
      go_simp
      try with_reducible rfl
    try simp only [Act.put, List.setIfInBounds_toArray, List.set_cons_zero, List.set_cons_succ]
    refine wpAnyH_take (i := 8) (oi := ⟨some 13, _, _, _, _, _⟩) (v := ?v8c1) rfl (by kernel_rfl) (by kernel_rfl) (by kernel_rfl) (fun _ _ _ h => h) (Or.inl ⟨by rfl, ?y8c1⟩) hHeld ?r8c1
    case y8c1 =>
      rintro w' hSw
      go_simp
      try with_reducible rfl
    try simp only [Act.put, List.setIfInBounds_toArray, List.set_cons_zero, List.set_cons_succ]
    refine wpAnyH_take (i := 9) (oi := ⟨some 14, _, _, _, _, _⟩) (v := ?v9c1) rfl (by kernel_rfl) (by kernel_rfl) (by kernel_rfl) (fun _ _ _ h => h) (Or.inl ⟨by rfl, ?y9c1⟩) hHeld ?r9c1
    case y9c1 =>
      rintro w' hSw
      obtain ⟨ca, cb, cc, cd⟩ := hSw
      go_simp
      try with_reducible rfl
    try simp only [Act.put, List.setIfInBounds_toArray, List.set_cons_zero, List.set_cons_succ]
    refine wpAnyH_take (i := 10) (oi := ⟨some 15, _, _, _, _, _⟩) (v := ?v10c1) rfl (by kernel_rfl) (by kernel_rfl) (by kernel_rfl) (fun _ _ _ h => h) (Or.inl ⟨by rfl, ?y10c1⟩) hHeld ?r10c1
    case y10c1 =>
      rintro w' hSw
      go_simp
      try with_reducible rfl
    try simp only [Act.put, List.setIfInBounds_toArray, List.set_cons_zero, List.set_cons_succ]
    refine wpAnyH_take (i := 11) (oi := ⟨some 16, _, _, _, _, _⟩) (v := ?v11c1) rfl (by kernel_rfl) (by kernel_rfl) (by kernel_rfl) (fun _ _ _ h => h) (Or.inl ⟨by rfl, ?y11c1⟩) hHeld ?r11c1
    case y11c1 =>
      rintro w' hSw
      go_simp
      try with_reducible rfl
    try simp only [Act.put, List.setIfInBounds_toArray, List.set_cons_zero, List.set_cons_succ]
    refine wpAnyH_take (i := 12) (oi := ⟨some 17, _, _, _, _, _⟩) (v := ?v12c1) rfl (by kernel_rfl) (by kernel_rfl) (by kernel_rfl) (fun _ _ _ h => h) (Or.inl ⟨by rfl, ?y12c1⟩) hHeld ?r12c1
    case y12c1 =>
      rintro w' hSw
      go_simp
      try with_reducible rfl
    try simp only [Act.put, List.setIfInBounds_toArray, List.set_cons_zero, List.set_cons_succ]
    refine wpAnyH_take (i := 13) (oi := ⟨some 18, _, _, _, _, _⟩) (v := undef) rfl (by kernel_rfl) (by kernel_rfl) (by kernel_rfl) (fun _ _ _ h => h) (Or.inr ⟨by rfl, rfl⟩) hHeld ?r13c1
    try simp only [Act.put, List.setIfInBounds_toArray, List.set_cons_zero, List.set_cons_succ]
    refine wpAnyH_take (i := 14) (oi := ⟨some 19, _, _, _, _, _⟩) (v := undef) rfl (by kernel_rfl) (by kernel_rfl) (by kernel_rfl) (fun _ _ _ h => h) (Or.inr ⟨by rfl, rfl⟩) hHeld ?r14c1
    try simp only [Act.put, List.setIfInBounds_toArray, List.set_cons_zero, List.set_cons_succ]
    refine wpAnyH_take (i := 15) (oi := ⟨some 20, _, _, _, _, _⟩) (v := undef) rfl (by kernel_rfl) (by kernel_rfl) (by kernel_rfl) (fun _ _ _ h => h) (Or.inr ⟨by rfl, rfl⟩) hHeld ?r15c1
    try simp only [Act.put, List.setIfInBounds_toArray, List.set_cons_zero, List.set_cons_succ]
    refine wpAnyH_take (i := 16) (oi := ⟨some 21, _, _, _, _, _⟩) (v := undef) rfl (by kernel_rfl) (by kernel_rfl) (by kernel_rfl) (fun _ _ _ h => h) (Or.inr ⟨by rfl, rfl⟩) hHeld ?r16c1
    try simp only [Act.put, List.setIfInBounds_toArray, List.set_cons_zero, List.set_cons_succ]
    refine wpAnyH_take (i := 17) (oi := ⟨some 22, _, _, _, _, _⟩) (v := undef) rfl (by kernel_rfl) (by kernel_rfl) (by kernel_rfl) (fun _ _ _ h => h) (Or.inr ⟨by rfl, rfl⟩) hHeld ?r17c1
    try simp only [Act.put, List.setIfInBounds_toArray, List.set_cons_zero, List.set_cons_succ]
    refine wpAnyH_take (i := 18) (oi := ⟨some 23, _, _, _, _, _⟩) (v := ?v18c1) rfl (by kernel_rfl) (by kernel_rfl) (by kernel_rfl) (fun _ _ _ h => h) (Or.inl ⟨by rfl, ?y18c1⟩) hHeld ?r18c1
    case y18c1 =>
      rintro w' hSw
      go_simp
      try with_reducible rfl
    try simp only [Act.put, List.setIfInBounds_toArray, List.set_cons_zero, List.set_cons_succ]
    refine wpAnyH_take (i := 19) (oi := ⟨some 4, _, _, _, _, _⟩) (v := ?v19c1) rfl (by kernel_rfl) (by kernel_rfl) (by kernel_rfl) (fun _ _ _ h => h) (Or.inl ⟨by rfl, ?y19c1⟩) hHeld ?r19c1
    case y19c1 =>
      rintro w' hSw
      go_simp
      try with_reducible rfl
    try simp only [Act.put, List.setIfInBounds_toArray, List.set_cons_zero, List.set_cons_succ]
    refine wpAnyH_done (by kernel_rfl) ?_ _
    go_wp2
    go_ret
    exact ⟨ret_bool (by rw [HVF.out]), (below_still HB.out.hb ⟨1, rfl⟩)⟩
  case pos =>
    have hlb : ((l1 : Int) == (l2 : Int)) = true := by simp [hl]
    have HVF : Hid (V = eq4 f1 f2) := (show _ = _ by rw [HV.out]; unfold sameM; simp [hl, HN.out])
    clear hl HV HN
    refine wp_region_held_drew (S := fun w' => w'.cell? ⟨w.heap.size, 0, none⟩ = some (.int .i64 n1) ∧ w'.cell? ⟨w.heap.size + 1, 0, none⟩ = some (.int .i64 n2) ∧ w'.cell? ⟨w.heap.size, 1, none⟩ = some (.int .u64 (l1 : Int)) ∧ w'.cell? ⟨w.heap.size + 1, 1, none⟩ = some (.int .u64 (l2 : Int))) (by kernel_rfl) ⟨ha0, hb0, ha1, hb1⟩ (fun hHeld => ?_)
    refine wpAnyH_take (i := 0) (oi := ⟨some 5, _, _, _, _, _⟩) (v := ?v0c2) rfl (by kernel_rfl) (by kernel_rfl) (by kernel_rfl) (fun _ _ _ h => h) (Or.inl ⟨by rfl, ?y0c2⟩) hHeld ?r0c2
    case y0c2 =>
      rintro w' hSw
      go_simp
      try with_reducible rfl
    try simp only [Act.put, List.setIfInBounds_toArray, List.set_cons_zero, List.set_cons_succ]
    refine wpAnyH_take (i := 1) (oi := ⟨some 6, _, _, _, _, _⟩) (v := ?v1c2) rfl (by kernel_rfl) (by kernel_rfl) (by kernel_rfl) (fun _ _ _ h => h) (Or.inl ⟨by rfl, ?y1c2⟩) hHeld ?r1c2
    case y1c2 =>
      rintro w' hSw
      obtain ⟨ca, cb, cc, cd⟩ := hSw
      go_simp
      try with_reducible rfl
    try simp only [Act.put, List.setIfInBounds_toArray, List.set_cons_zero, List.set_cons_succ]
    refine wpAnyH_take (i := 2) (oi := ⟨some 7, _, _, _, _, _⟩) (v := ?v2c2) rfl (by kernel_rfl) (by kernel_rfl) (by kernel_rfl) (fun _ _ _ h => h) (Or.inl ⟨by rfl, ?y2c2⟩) hHeld ?r2c2
    case y2c2 =>
      rintro w' hSw
      go_simp
      try with_reducible rfl
    try simp only [Act.put, List.setIfInBounds_toArray, List.set_cons_zero, List.set_cons_succ]
    refine wpAnyH_take (i := 3) (oi := ⟨some 8, _, _, _, _, _⟩) (v := ?v3c2) rfl (by kernel_rfl) (by kernel_rfl) (by kernel_rfl) (fun _ _ _ h => h) (Or.inl ⟨by rfl, ?y3c2⟩) hHeld ?r3c2
    case y3c2 =>
      rintro w' hSw
      obtain ⟨ca, cb, cc, cd⟩ := hSw
      go_simp
      try with_reducible rfl
    try simp only [Act.put, List.setIfInBounds_toArray, List.set_cons_zero, List.set_cons_succ]
    refine wpAnyH_take (i := 4) (oi := ⟨some 9, _, _, _, _, _⟩) (v := ?v4c2) rfl (by kernel_rfl) (by kernel_rfl) (by kernel_rfl) (fun _ _ _ h => h) (Or.inl ⟨by rfl, ?y4c2⟩) hHeld ?r4c2
    case y4c2 =>
      rintro w' hSw
      go_simp
      try with_reducible rfl
    try simp only [Act.put, List.setIfInBounds_toArray, List.set_cons_zero, List.set_cons_succ]
    refine wpAnyH_take (i := 5) (oi := ⟨some 10, _, _, _, _, _⟩) (v := ?v5c2) rfl (by kernel_rfl) (by kernel_rfl) (by kernel_rfl) (fun _ _ _ h => h) (Or.inl ⟨by rfl, ?y5c2⟩) hHeld ?r5c2
    case y5c2 =>
      rintro w' hSw
      go_simp
      try with_reducible rfl
    try simp only [Act.put, List.setIfInBounds_toArray, List.set_cons_zero, List.set_cons_succ]
    refine wpAnyH_take (i := 6) (oi := ⟨some 11, _, _, _, _, _⟩) (v := ?v6c2) rfl (by kernel_rfl) (by kernel_rfl) (by kernel_rfl) (fun _ _ _ h => h) (Or.inl ⟨by rfl, ?y6c2⟩) hHeld ?r6c2
    case y6c2 =>
      rintro w' hSw
      go_simp
      try with_reducible rfl
    try simp only [Act.put, List.setIfInBounds_toArray, List.set_cons_zero, List.set_cons_succ]
    refine wpAnyH_take (i := 7) (oi := ⟨some 12, _, _, _, _, _⟩) (v := ?v7c2) rfl (by kernel_rfl) (by kernel_rfl) (by kernel_rfl) (fun _ _ _ h => h) (Or.inl ⟨by rfl, ?y7c2⟩) hHeld ?r7c2
    case y7c2 =>
      rintro w' hSw
      obtain ⟨ca, cb, cc, cd⟩ := hSw
      go_simp
      try with_reducible rfl
    try simp only [Act.put, List.setIfInBounds_toArray, List.set_cons_zero, List.set_cons_succ]
    refine wpAnyH_take (i := 8) (oi := ⟨some 13, _, _, _, _, _⟩) (v := ?v8c2) rfl (by kernel_rfl) (by kernel_rfl) (by kernel_rfl) (fun _ _ _ h => h) (Or.inl ⟨by rfl, ?y8c2⟩) hHeld ?r8c2
    case y8c2 =>
      rintro w' hSw
      go_simp
      try with_reducible rfl
    try simp only [Act.put, List.setIfInBounds_toArray, List.set_cons_zero, List.set_cons_succ]
    refine wpAnyH_take (i := 9) (oi := ⟨some 14, _, _, _, _, _⟩) (v := ?v9c2) rfl (by kernel_rfl) (by kernel_rfl) (by kernel_rfl) (fun _ _ _ h => h) (Or.inl ⟨by rfl, ?y9c2⟩) hHeld ?r9c2
    case y9c2 =>
      rintro w' hSw
      obtain ⟨ca, cb, cc, cd⟩ := hSw
      go_simp
      try with_reducible rfl
    try simp only [Act.put, List.setIfInBounds_toArray, List.set_cons_zero, List.set_cons_succ]
    refine wpAnyH_take (i := 10) (oi := ⟨some 15, _, _, _, _, _⟩) (v := ?v10c2) rfl (by kernel_rfl) (by kernel_rfl) (by kernel_rfl) (fun _ _ _ h => h) (Or.inl ⟨by rfl, ?y10c2⟩) hHeld ?r10c2
    case y10c2 =>
      rintro w' hSw
      go_simp
      try with_reducible rfl
    try simp only [Act.put, List.setIfInBounds_toArray, List.set_cons_zero, List.set_cons_succ]
    refine wpAnyH_take (i := 11) (oi := ⟨some 16, _, _, _, _, _⟩) (v := ?v11c2) rfl (by kernel_rfl) (by kernel_rfl) (by kernel_rfl) (fun _ _ _ h => h) (Or.inl ⟨by rfl, ?y11c2⟩) hHeld ?r11c2
    case y11c2 =>
      rintro w' hSw
      go_simp
      try with_reducible rfl
    try simp only [Act.put, List.setIfInBounds_toArray, List.set_cons_zero, List.set_cons_succ]
    refine wpAnyH_take (i := 12) (oi := ⟨some 17, _, _, _, _, _⟩) (v := ?v12c2) rfl (by kernel_rfl) (by kernel_rfl) (by kernel_rfl) (fun _ _ _ h => h) (Or.inl ⟨by rfl, ?y12c2⟩) hHeld ?r12c2
    case y12c2 =>
      rintro w' hSw
      go_simp
      try with_reducible rfl
    try simp only [Act.put, List.setIfInBounds_toArray, List.set_cons_zero, List.set_cons_succ]
    refine wpAnyH_take (i := 13) (oi := ⟨some 18, _, _, _, _, _⟩) (v := ?v13c2) rfl (by kernel_rfl) (by kernel_rfl) (by kernel_rfl) (fun _ _ _ h => h) (Or.inl ⟨by rfl, ?y13c2⟩) hHeld ?r13c2
    case y13c2 =>
      rintro w' hSw
      go_simp
      try with_reducible rfl
    try simp only [Act.put, List.setIfInBounds_toArray, List.set_cons_zero, List.set_cons_succ]
    refine wpAnyH_take (i := 14) (oi := ⟨some 19, _, _, _, _, _⟩) (v := ?v14c2) rfl (by kernel_rfl) (by kernel_rfl) (by kernel_rfl) (fun _ _ _ h => h) (Or.inl ⟨by rfl, ?y14c2⟩) hHeld ?r14c2
    case y14c2 =>
      rintro w' hSw
      go_simp
      try with_reducible rfl
    try simp only [Act.put, List.setIfInBounds_toArray, List.set_cons_zero, List.set_cons_succ]
    refine wpAnyH_take (i := 15) (oi := ⟨some 20, _, _, _, _, _⟩) (v := ?v15c2) rfl (by kernel_rfl) (by kernel_rfl) (by kernel_rfl) (fun _ _ _ h => h) (Or.inl ⟨by rfl, ?y15c2⟩) hHeld ?r15c2
    case y15c2 =>
      rintro w' hSw
      go_simp
      try with_reducible rfl
    try simp only [Act.put, List.setIfInBounds_toArray, List.set_cons_zero, List.set_cons_succ]
    refine wpAnyH_take (i := 16) (oi := ⟨some 21, _, _, _, _, _⟩) (v := ?v16c2) rfl (by kernel_rfl) (by kernel_rfl) (by kernel_rfl) (fun _ _ _ h => h) (Or.inl ⟨by rfl, ?y16c2⟩) hHeld ?r16c2
    case y16c2 =>
      rintro w' hSw
      go_simp
      try with_reducible rfl
    try simp only [Act.put, List.setIfInBounds_toArray, List.set_cons_zero, List.set_cons_succ]
    refine wpAnyH_ready (rs := [17]) (by kernel_rfl) (by simp) ?_
    refine AllReadyH.cons rfl (fun K hK => ?_) AllReadyH.nil
    go_simp
    refine (HEQ.out _ ⟨1, rfl⟩).mono ?_
    rintro e w' ⟨rfl, rfl⟩
    refine hK _ _ hHeld (fun _ => ?_)
    clear hK K
    try simp only [Act.put, List.setIfInBounds_toArray, List.set_cons_zero, List.set_cons_succ]
    refine wpAnyH_take (i := 18) (oi := ⟨some 23, _, _, _, _, _⟩) (v := ?v18c2) rfl (by kernel_rfl) (by kernel_rfl) (by kernel_rfl) (fun _ _ _ h => h) (Or.inl ⟨by rfl, ?y18c2⟩) hHeld ?r18c2
    case y18c2 =>
      rintro w' hSw
      go_simp
      try with_reducible rfl
    try simp only [Act.put, List.setIfInBounds_toArray, List.set_cons_zero, List.set_cons_succ]
    refine wpAnyH_take (i := 19) (oi := ⟨some 4, _, _, _, _, _⟩) (v := ?v19c2) rfl (by kernel_rfl) (by kernel_rfl) (by kernel_rfl) (fun _ _ _ h => h) (Or.inl ⟨by rfl, ?y19c2⟩) hHeld ?r19c2
    case y19c2 =>
      rintro w' hSw
      go_simp
      try with_reducible rfl
    try simp only [Act.put, List.setIfInBounds_toArray, List.set_cons_zero, List.set_cons_succ]
    refine wpAnyH_done (by kernel_rfl) ?_ _
    go_wp2
    go_ret
    exact ⟨ret_bool (by rw [HVF.out]), (below_still HB.out.hb ⟨1, rfl⟩)⟩
end Go.Proofs.YtnljhopikjkflaaDoor.Pg
