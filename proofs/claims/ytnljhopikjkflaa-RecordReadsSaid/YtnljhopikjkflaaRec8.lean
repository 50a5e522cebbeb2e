/-
  A record's reader: fields.
-/
import Derived.Test.YtnljhopikjkflaaRec7
namespace Go.Proofs.Ytnljhopikjkflaa.Rec
set_option maxRecDepth 100000
open Go.RowKit Go.Proofs.Ytnljhopikjkflaa.Wd Go.Proofs.Ytnljhopikjkflaa.Oct Go.Proofs.Ytnljhopikjkflaa.Dsk

/-- no record yet -/
def zcs : List Value := [.int .u64 0, .int .i64 0, .int .u64 0, .int .u64 0, .int .i64 0, .int .i64 0, .slice none 0 0, .slice none 0 0, .int .u64 0]
/-- the numbers are read -/
def ncs (a b c : Nat) : List Value := [.int .u64 (a : Int), .int .i64 0, .int .u64 (b : Int), .int .u64 (c : Int), .int .i64 0, .int .i64 0, .slice none 0 0, .slice none 0 0, .int .u64 0]
/-- what the first region of fields leaves -/
def F1 (w : World) (g : Nat) (l : List UInt8) (p : Nat × Int) (t : Value) (wx : World) : Prop :=
  ∃ g5, t = .pointer (some ⟨g5, 0, none⟩) ∧ w.heap.size + 1 < g5 ∧ Row wx g5 34 (ncs (rn 8 l p).1 (rn 8 l (rn 8 l p).2).1 (rn 8 l (rn 8 l (rn 8 l p).2).2).1) ∧ Row wx w.heap.size 69 [.pointer (some ⟨g, 0, none⟩)] ∧
    Row wx (w.heap.size + 1) 34 zcs ∧ Rdr wx g l (rn 8 l (rn 8 l (rn 8 l p).2).2).2.1 (rn 8 l (rn 8 l (rn 8 l p).2).2).2.2 ∧ w.grownBy wx (some g)
theorem ncs_one {a b c : Nat} : ∀ v ∈ ncs a b c, v.oneCell' = true := by
  intro v hv
  simp only [ncs, List.mem_cons, List.not_mem_nil, or_false] at hv
  rcases hv with rfl | rfl | rfl | rfl | rfl | rfl | rfl | rfl | rfl <;> rfl

/-- fields under way: block g5 has the cells cs, the Reader stands at p -/
def FX (w : World) (g : Nat) (l : List UInt8) (g5 : Nat) (p : Nat × Int) (cs : List Value) (wx : World) : Prop :=
  Row wx g5 34 cs ∧ Row wx w.heap.size 69 [.pointer (some ⟨g, 0, none⟩)] ∧ Row wx (w.heap.size + 1) 34 zcs ∧ Rdr wx g l p.1 p.2 ∧ w.grownBy wx (some g)
/-- an item that was read lies behind g5 -/
def IT (wx : World) (g5 : Nat) (q : List UInt8) (A : Option Addr) (m c : Nat) : Prop := q.length = m ∧ m ≤ 255 ∧ (A = none → c = 0) ∧ Bs wx wx.heap.size A q ∧ ∀ b o, A = some ⟨b, o, none⟩ → g5 < b
theorem IT.nil (wx : World) (g5 : Nat) : IT wx g5 [] none 0 0 := ⟨rfl, by omega, fun _ => rfl, Bs.nil _ _ _, fun b o e => by cases e⟩
theorem IT.grown {wx wy : World} {g5 k : Nat} {q : List UInt8} {A : Option Addr} {m c : Nat} (h : IT wx g5 q A m c) (hg : wx.grownBy wy (some k)) (hk : k ≤ g5) : IT wy g5 q A m c :=
  ⟨h.1, h.2.1, h.2.2.1, (Bs.grown h.2.2.2.1 (Nat.le_refl _) hg (fun b o e => by have := h.2.2.2.2 b o e; omega)).more hg.size, h.2.2.2.2⟩
theorem set_grown (w : World) (g i : Nat) (v : Value) : w.grownBy (w.setCell ⟨g, i, none⟩ v) (some g) := grown_store w g i v
theorem rb_len (l : List UInt8) (p : Nat × Int) : (rb l p).1.length ≤ 255 := by
  unfold rb
  refine step_len l _ _ _ 255 ?_
  have := step_num_lt l p.1 p.2 1
  simp only [Nat.pow_one] at this
  show ((num (Oct.step l p.1 p.2 1).1 : Nat) : Int) ≤ _
  have h2 : num (Oct.step l p.1 p.2 1).1 < 256 := this
  omega
theorem wrap_num (l : List UInt8) (p : Nat × Int) : IntKind.i64.wrap ((num (Oct.step l p.1 p.2 1).1 : Nat) : Int) = ((rn 1 l p).1 : Int) := by
  have := step_num_lt l p.1 p.2 1
  simp only [Nat.pow_one] at this
  have h2 : num (Oct.step l p.1 p.2 1).1 < 256 := this
  rw [IntKind.wrap_i64]
  unfold rn
  simp only
  omega
/-- an item more -/
def FI (w : World) (g : Nat) (l : List UInt8) (g5 : Nat) (p : Nat × Int) (mk : Option Addr → Nat → Nat → List Value) (q : List UInt8) (I : World → Prop) (wx : World) : Prop :=
  ∃ A m c, FX w g l g5 p (mk A m c) wx ∧ IT wx g5 q A m c ∧ I wx
/-- a store to the record under way -/
theorem FX.store {w : World} {g : Nat} {l : List UInt8} {g5 : Nat} {p : Nat × Int} {cs : List Value} {wx : World} (h : FX w g l g5 p cs wx) (hg : g < g5) (h5 : w.heap.size + 1 < g5) (i : Nat) (v : Value) : FX w g l g5 p (cs.set i v) (wx.setCell ⟨g5, i, none⟩ v) :=
  ⟨Row.store h.1 i v, Row.far h.2.1 (p := ⟨g5, i, none⟩) (by show w.heap.size ≠ g5; omega) v, Row.far h.2.2.1 (p := ⟨g5, i, none⟩) (by show w.heap.size + 1 ≠ g5; omega) v, h.2.2.2.1.grown (set_grown wx g5 i v) hg, grown_own h.2.2.2.2 (set_grown wx g5 i v) (by omega)⟩
/-- the Reader goes on -/
theorem FX.reads {w : World} {g : Nat} {l : List UInt8} {g5 : Nat} {p p' : Nat × Int} {cs : List Value} {wx wy : World} (h : FX w g l g5 p cs wx) (hg : g < g5) (h5 : w.heap.size + 1 < g5) (hgw : g < w.heap.size) (hR : Rdr wy g l p'.1 p'.2) (hb : wx.grownBy wy (some g)) : FX w g l g5 p' cs wy :=
  ⟨Row.grown2 h.1 hb (by omega), Row.grown2 h.2.1 hb (by omega), Row.grown2 h.2.2.1 hb (by omega), hR, grown_then h.2.2.2.2 hb⟩

set_option maxHeartbeats 4000000 in
theorem fields_any (g : Nat) (l : List UInt8) (at_ : Nat) (err : Int) (f : Nat) (w : World) (hR : Rdr w g l at_ err) (hl : l.length ≤ 140737488355328) :
    Calls Try.prog 72 #[.agg #[.pointer (some ⟨g, 0, none⟩)], .int .u8 (f : Int)] w fun e w' => ∃ s, e = .returned (.agg (rcs (fieldsM l (hasB f 2) (hasB f 4) (hasB f 8) (hasB f 16) (at_, err)).1 s).toArray) ∧ RecAt w' w'.heap.size (fieldsM l (hasB f 2) (hasB f 4) (hasB f 8) (hasB f 16) (at_, err)).1 s ∧ Rdr w' g l (fieldsM l (hasB f 2) (hasB f 4) (hasB f 8) (hasB f 16) (at_, err)).2.1 (fieldsM l (hasB f 2) (hasB f 4) (hasB f 8) (hasB f 16) (at_, err)).2.2 ∧ w.grownBy w' (some g) := by
  have mixed : Try.prog.follows .mixedOrders = true := by kernel_rfl
  have hgw := hR.lt
  have HL := Lib.hid hl
  have HR := Lib.hid hR
  clear hR hl
  obtain ⟨Z, hZ⟩ : ∃ Z, Z = fieldsM l (hasB f 2) (hasB f 4) (hasB f 8) (hasB f 16) (at_, err) := ⟨_, rfl⟩
  rw [← hZ]
  have HZ := Lib.hid hZ
  clear hZ
  have HH2 : Hid (∀ w, Calls Try.prog 59 #[.int .u8 (f : Int), .int .u8 2] w fun e w' => e = .returned (.bool (hasB f 2)) ∧ w = w') := fun w => has_any f 2 w
  generalize hasB f 2 = J2 at HH2 HZ
  have HH4 : Hid (∀ w, Calls Try.prog 59 #[.int .u8 (f : Int), .int .u8 4] w fun e w' => e = .returned (.bool (hasB f 4)) ∧ w = w') := fun w => has_any f 4 w
  generalize hasB f 4 = J4 at HH4 HZ
  have HH8 : Hid (∀ w, Calls Try.prog 59 #[.int .u8 (f : Int), .int .u8 8] w fun e w' => e = .returned (.bool (hasB f 8)) ∧ w = w') := fun w => has_any f 8 w
  generalize hasB f 8 = J8 at HH8 HZ
  have HH16 : Hid (∀ w, Calls Try.prog 59 #[.int .u8 (f : Int), .int .u8 16] w fun e w' => e = .returned (.bool (hasB f 16)) ∧ w = w') := fun w => has_any f 16 w
  generalize hasB f 16 = J16 at HH16 HZ
  go_enter Try.func72, Try.ntmps72
  go_upto_region 1 with fail
  have r0 : Row ((w.alloc (.cells #[.pointer (some ⟨g, 0, none⟩)] 69)).alloc (.cells #[.int .u64 0, .int .i64 0, .int .u64 0, .int .u64 0, .int .i64 0, .int .i64 0, .slice none 0 0, .slice none 0 0, .int .u64 0] 34)) w.heap.size 69 [.pointer (some ⟨g, 0, none⟩)] := (Row.new w _ _).alloc _
  have r4 : Row ((w.alloc (.cells #[.pointer (some ⟨g, 0, none⟩)] 69)).alloc (.cells #[.int .u64 0, .int .i64 0, .int .u64 0, .int .u64 0, .int .i64 0, .int .i64 0, .slice none 0 0, .slice none 0 0, .int .u64 0] 34)) (w.heap.size + 1) 34 zcs := by
    have := Row.new (w.alloc (.cells #[.pointer (some ⟨g, 0, none⟩)] 69)) 34 zcs
    rwa [World.size_alloc] at this
  have hR0 : Rdr ((w.alloc (.cells #[.pointer (some ⟨g, 0, none⟩)] 69)).alloc (.cells #[.int .u64 0, .int .i64 0, .int .u64 0, .int .u64 0, .int .i64 0, .int .i64 0, .slice none 0 0, .slice none 0 0, .int .u64 0] 34)) g l at_ err := (HR.out.below ((Below.refl _ _).alloc (Nat.le_refl _) _) hgw).below ((Below.refl _ _).alloc (Nat.le_refl _) _) (by simp; omega)
  have hg0 : w.grownBy ((w.alloc (.cells #[.pointer (some ⟨g, 0, none⟩)] 69)).alloc (.cells #[.int .u64 0, .int .i64 0, .int .u64 0, .int .u64 0, .int .i64 0, .int .i64 0, .slice none 0 0, .slice none 0 0, .int .u64 0] 34)) (some g) := grown_alloc (grown_alloc (grown_refl w _) _) _
  have hs0 : w.heap.size + 2 ≤ ((w.alloc (.cells #[.pointer (some ⟨g, 0, none⟩)] 69)).alloc (.cells #[.int .u64 0, .int .i64 0, .int .u64 0, .int .u64 0, .int .i64 0, .int .i64 0, .slice none 0 0, .slice none 0 0, .int .u64 0] 34)).heap.size := by simp
  generalize (w.alloc (.cells #[.pointer (some ⟨g, 0, none⟩)] 69)).alloc (.cells #[.int .u64 0, .int .i64 0, .int .u64 0, .int .u64 0, .int .i64 0, .int .i64 0, .slice none 0 0, .slice none 0 0, .int .u64 0] 34) = w0 at *
  have R0 := Lib.hid r0
  have R4 := Lib.hid r4
  have HR0 := Lib.hid hR0
  have HG0 := Lib.hid hg0
  have HS0 := Lib.hid hs0
  clear r0 hR0 hg0 hs0 r4
  go_cut [5] from 6 to 15 (fun t5 wx => F1 w g l (at_, err) t5 wx)
  case first =>
    refine wp_region_held_drew (S := fun w' => Row w' w.heap.size 69 [.pointer (some ⟨g, 0, none⟩)]) (by kernel_rfl) (Row.drew R0.out) (fun hHeld => ?_)
    replace R0 := Lib.hid (Row.drew R0.out)
    replace R4 := Lib.hid (Row.drew R4.out)
    replace HR := Lib.hid (show Rdr w0.drew g l at_ err from HR0.out)
    have HG := Lib.hid (grown_drew HG0.out)
    have HS : Hid (w.heap.size + 2 ≤ w0.drew.heap.size) := HS0
    generalize w0.drew = w1 at *
    refine wpAnyH_take (i := 0) (oi := ⟨some 6, _, _, _, _, _⟩) (v := ?v0) rfl (by kernel_rfl) (by kernel_rfl) (by kernel_rfl) (fun _ _ _ h => h) (Or.inl ⟨by rfl, ?y0⟩) hHeld ?r0
    case y0 =>
      rintro w' hSw
      go_simp
      try with_reducible rfl
    try simp only [Act.put, List.setIfInBounds_toArray, List.set_cons_zero, List.set_cons_succ]
    refine wpAnyH_take (i := 1) (oi := ⟨some 7, _, _, _, _, _⟩) (v := ?v1) rfl (by kernel_rfl) (by kernel_rfl) (by kernel_rfl) (fun _ _ _ h => h) (Or.inl ⟨by rfl, ?y1⟩) hHeld ?r1
    case y1 =>
      rintro w' hSw
      have c0 : w'.cell? ⟨w.heap.size, 0, none⟩ = some (.pointer (some ⟨g, 0, none⟩)) := hSw.cell 0
      go_simp
      try with_reducible rfl
    try simp only [Act.put, List.setIfInBounds_toArray, List.set_cons_zero, List.set_cons_succ]
    refine wpAnyH_take (i := 3) (oi := ⟨some 9, _, _, _, _, _⟩) (v := ?v3) rfl (by kernel_rfl) (by kernel_rfl) (by kernel_rfl) (fun _ _ _ h => h) (Or.inl ⟨by rfl, ?y3⟩) hHeld ?r3
    case y3 =>
      rintro w' hSw
      go_simp
      try with_reducible rfl
    try simp only [Act.put, List.setIfInBounds_toArray, List.set_cons_zero, List.set_cons_succ]
    refine wpAnyH_take (i := 4) (oi := ⟨some 10, _, _, _, _, _⟩) (v := ?v4) rfl (by kernel_rfl) (by kernel_rfl) (by kernel_rfl) (fun _ _ _ h => h) (Or.inl ⟨by rfl, ?y4⟩) hHeld ?r4
    case y4 =>
      rintro w' hSw
      have c0 : w'.cell? ⟨w.heap.size, 0, none⟩ = some (.pointer (some ⟨g, 0, none⟩)) := hSw.cell 0
      go_simp
      try with_reducible rfl
    try simp only [Act.put, List.setIfInBounds_toArray, List.set_cons_zero, List.set_cons_succ]
    refine wpAnyH_take (i := 6) (oi := ⟨some 12, _, _, _, _, _⟩) (v := ?v6) rfl (by kernel_rfl) (by kernel_rfl) (by kernel_rfl) (fun _ _ _ h => h) (Or.inl ⟨by rfl, ?y6⟩) hHeld ?r6
    case y6 =>
      rintro w' hSw
      go_simp
      try with_reducible rfl
    try simp only [Act.put, List.setIfInBounds_toArray, List.set_cons_zero, List.set_cons_succ]
    refine wpAnyH_take (i := 7) (oi := ⟨some 13, _, _, _, _, _⟩) (v := ?v7) rfl (by kernel_rfl) (by kernel_rfl) (by kernel_rfl) (fun _ _ _ h => h) (Or.inl ⟨by rfl, ?y7⟩) hHeld ?r7
    case y7 =>
      rintro w' hSw
      have c0 : w'.cell? ⟨w.heap.size, 0, none⟩ = some (.pointer (some ⟨g, 0, none⟩)) := hSw.cell 0
      go_simp
      try with_reducible rfl
    try simp only [Act.put, List.setIfInBounds_toArray, List.set_cons_zero, List.set_cons_succ]
    refine wpAnyH_ready (rs := [2, 10]) (by kernel_rfl) (by simp) ?_
    refine (AllReadyH.cons rfl (fun K hK => ?_) (AllReadyH.cons rfl (fun K hK => ?_) AllReadyH.nil))
    · go_simp
      refine (u64_any g l _ _ _ HR.out).mono ?_
      rintro e wn1 ⟨rfl, hR1, hg1⟩
      have R0n1 := Lib.hid (Row.grown2 R0.out hg1 (by omega))
      have R4n1 := Lib.hid (Row.grown2 R4.out hg1 (by omega))
      have HRn1 := Lib.hid hR1
      have HGn1 := Lib.hid (grown_then HG.out hg1)
      have HSn1 := Lib.hid (Nat.le_trans HS.out hg1.size)
      clear hR1 hg1
      refine hK _ _ R0n1.out (fun _ => ?_)
      clear hK K
      try simp only [Act.put, List.setIfInBounds_toArray, List.set_cons_zero, List.set_cons_succ]
      refine wpAnyH_ready (rs := [5, 10]) (by kernel_rfl) (by simp) ?_
      refine (AllReadyH.cons rfl (fun K hK => ?_) (AllReadyH.cons rfl (fun K hK => ?_) AllReadyH.nil))
      · go_simp
        refine (u64_any g l _ _ _ HRn1.out).mono ?_
        rintro e wn2 ⟨rfl, hR1, hg1⟩
        have R0n2 := Lib.hid (Row.grown2 R0n1.out hg1 (by omega))
        have R4n2 := Lib.hid (Row.grown2 R4n1.out hg1 (by omega))
        have HRn2 := Lib.hid hR1
        have HGn2 := Lib.hid (grown_then HGn1.out hg1)
        have HSn2 := Lib.hid (Nat.le_trans HSn1.out hg1.size)
        clear hR1 hg1
        refine hK _ _ R0n2.out (fun _ => ?_)
        clear hK K
        try simp only [Act.put, List.setIfInBounds_toArray, List.set_cons_zero, List.set_cons_succ]
        refine wpAnyH_ready (rs := [8, 10]) (by kernel_rfl) (by simp) ?_
        refine (AllReadyH.cons rfl (fun K hK => ?_) (AllReadyH.cons rfl (fun K hK => ?_) AllReadyH.nil))
        · go_simp
          refine (u64_any g l _ _ _ HRn2.out).mono ?_
          rintro e wn3 ⟨rfl, hR1, hg1⟩
          have R0n3 := Lib.hid (Row.grown2 R0n2.out hg1 (by omega))
          have R4n3 := Lib.hid (Row.grown2 R4n2.out hg1 (by omega))
          have HRn3 := Lib.hid hR1
          have HGn3 := Lib.hid (grown_then HGn2.out hg1)
          have HSn3 := Lib.hid (Nat.le_trans HSn2.out hg1.size)
          clear hR1 hg1
          refine hK _ _ R0n3.out (fun _ => ?_)
          clear hK K
          try simp only [Act.put, List.setIfInBounds_toArray, List.set_cons_zero, List.set_cons_succ]
          refine wpAnyH_take (i := 9) (oi := ⟨some 15, _, _, _, _, _⟩) (v := ?v9kn3) rfl (by kernel_rfl) (by kernel_rfl) (by kernel_rfl) (fun _ _ _ h => h) (Or.inl ⟨by rfl, ?y9kn3⟩) R0n3.out ?r9kn3
          case y9kn3 =>
            rintro w' hSw
            go_simp
            try with_reducible rfl
          try simp only [Act.put, List.setIfInBounds_toArray, List.set_cons_zero, List.set_cons_succ]
          refine wpAnyH_ready (rs := [10]) (by kernel_rfl) (by simp) ?_
          refine (AllReadyH.cons rfl (fun K hK => ?_) AllReadyH.nil)
          go_simp
          obtain ⟨g5, hg5⟩ : ∃ g5, g5 = wn3.heap.size := ⟨_, rfl⟩
          have r5 : Row (wn3.alloc (.cells #[.int .u64 0, .int .i64 0, .int .u64 0, .int .u64 0, .int .i64 0, .int .i64 0, .slice none 0 0, .slice none 0 0, .int .u64 0] 34)) g5 34 zcs := by rw [hg5]; exact Row.new wn3 _ _
          rw [← hg5]
          have R0n4 := Lib.hid (R0n3.out.alloc (.cells #[.int .u64 0, .int .i64 0, .int .u64 0, .int .u64 0, .int .i64 0, .int .i64 0, .slice none 0 0, .slice none 0 0, .int .u64 0] 34))
          have R4n4 := Lib.hid (R4n3.out.alloc (.cells #[.int .u64 0, .int .i64 0, .int .u64 0, .int .u64 0, .int .i64 0, .int .i64 0, .slice none 0 0, .slice none 0 0, .int .u64 0] 34))
          have R5n4 := Lib.hid r5
          have HRn4 := Lib.hid (HRn3.out.below ((Below.refl _ _).alloc (Nat.le_refl _) (.cells #[.int .u64 0, .int .i64 0, .int .u64 0, .int .u64 0, .int .i64 0, .int .i64 0, .slice none 0 0, .slice none 0 0, .int .u64 0] 34)) HRn3.out.lt)
          have HGn4 := Lib.hid (grown_alloc HGn3.out (.cells #[.int .u64 0, .int .i64 0, .int .u64 0, .int .u64 0, .int .i64 0, .int .i64 0, .slice none 0 0, .slice none 0 0, .int .u64 0] 34))
          have HS5 : Hid (w.heap.size + 2 ≤ g5) := (show _ ≤ _ by rw [hg5]; exact HSn3.out)
          have HSn4 : Hid (w.heap.size + 2 ≤ (wn3.alloc (.cells #[.int .u64 0, .int .i64 0, .int .u64 0, .int .u64 0, .int .i64 0, .int .i64 0, .slice none 0 0, .slice none 0 0, .int .u64 0] 34)).heap.size) := (show _ ≤ _ by rw [World.size_alloc]; exact Nat.le_succ_of_le HSn3.out)
          generalize wn3.alloc (.cells #[.int .u64 0, .int .i64 0, .int .u64 0, .int .u64 0, .int .i64 0, .int .i64 0, .slice none 0 0, .slice none 0 0, .int .u64 0] 34) = wn4 at *
          clear hg5 r5
          refine hK _ _ R0n4.out (fun _ => ?_)
          clear hK K
          try simp only [Act.put, List.setIfInBounds_toArray, List.set_cons_zero, List.set_cons_succ]
          refine wpAnyH_ready (rs := [11]) (by kernel_rfl) (by simp) ?_
          refine AllReadyH.cons rfl (fun K hK => ?_) AllReadyH.nil
          rw [if_pos (by rfl)]
          refine wp_store_whole 34 (.tmp 5) (.tmp 15) rfl g5 (ncs _ _ _) rfl rfl 34 zcs R5n4.out rfl ncs_one (by kernel_rfl) ?_
          intro w9 hr9 hg9
          have R09 := Lib.hid (Row.grown2 R0n4.out hg9 (by have := HS5.out; omega))
          have R49 := Lib.hid (Row.grown2 R4n4.out hg9 (by have := HS5.out; omega))
          have HR9 := Lib.hid (HRn4.out.grown hg9 (by have := HS5.out; omega))
          have HG9 := Lib.hid (grown_own HGn4.out hg9 (by have := HS5.out; omega))
          refine hK _ _ R09.out (fun _ => ?_)
          clear hK K
          try simp only [Act.put, List.setIfInBounds_toArray, List.set_cons_zero, List.set_cons_succ]
          refine wpAnyH_done (by kernel_rfl) ?_ _
          go_wp2_with fail
          go_meet
          exact ⟨g5, rfl, by have := HS5.out; omega, hr9, R09.out, R49.out, HR9.out, HG9.out⟩
        · go_simp
          obtain ⟨g5, hg5⟩ : ∃ g5, g5 = wn2.heap.size := ⟨_, rfl⟩
          have r5 : Row (wn2.alloc (.cells #[.int .u64 0, .int .i64 0, .int .u64 0, .int .u64 0, .int .i64 0, .int .i64 0, .slice none 0 0, .slice none 0 0, .int .u64 0] 34)) g5 34 zcs := by rw [hg5]; exact Row.new wn2 _ _
          rw [← hg5]
          have R0n5 := Lib.hid (R0n2.out.alloc (.cells #[.int .u64 0, .int .i64 0, .int .u64 0, .int .u64 0, .int .i64 0, .int .i64 0, .slice none 0 0, .slice none 0 0, .int .u64 0] 34))
          have R4n5 := Lib.hid (R4n2.out.alloc (.cells #[.int .u64 0, .int .i64 0, .int .u64 0, .int .u64 0, .int .i64 0, .int .i64 0, .slice none 0 0, .slice none 0 0, .int .u64 0] 34))
          have R5n5 := Lib.hid r5
          have HRn5 := Lib.hid (HRn2.out.below ((Below.refl _ _).alloc (Nat.le_refl _) (.cells #[.int .u64 0, .int .i64 0, .int .u64 0, .int .u64 0, .int .i64 0, .int .i64 0, .slice none 0 0, .slice none 0 0, .int .u64 0] 34)) HRn2.out.lt)
          have HGn5 := Lib.hid (grown_alloc HGn2.out (.cells #[.int .u64 0, .int .i64 0, .int .u64 0, .int .u64 0, .int .i64 0, .int .i64 0, .slice none 0 0, .slice none 0 0, .int .u64 0] 34))
          have HS5 : Hid (w.heap.size + 2 ≤ g5) := (show _ ≤ _ by rw [hg5]; exact HSn2.out)
          have HSn5 : Hid (w.heap.size + 2 ≤ (wn2.alloc (.cells #[.int .u64 0, .int .i64 0, .int .u64 0, .int .u64 0, .int .i64 0, .int .i64 0, .slice none 0 0, .slice none 0 0, .int .u64 0] 34)).heap.size) := (show _ ≤ _ by rw [World.size_alloc]; exact Nat.le_succ_of_le HSn2.out)
          generalize wn2.alloc (.cells #[.int .u64 0, .int .i64 0, .int .u64 0, .int .u64 0, .int .i64 0, .int .i64 0, .slice none 0 0, .slice none 0 0, .int .u64 0] 34) = wn5 at *
          clear hg5 r5
          refine hK _ _ R0n5.out (fun _ => ?_)
          clear hK K
          try simp only [Act.put, List.setIfInBounds_toArray, List.set_cons_zero, List.set_cons_succ]
          refine wpAnyH_ready (rs := [8]) (by kernel_rfl) (by simp) ?_
          refine (AllReadyH.cons rfl (fun K hK => ?_) AllReadyH.nil)
          go_simp
          refine (u64_any g l _ _ _ HRn5.out).mono ?_
          rintro e wn6 ⟨rfl, hR1, hg1⟩
          have R0n6 := Lib.hid (Row.grown2 R0n5.out hg1 (by omega))
          have R4n6 := Lib.hid (Row.grown2 R4n5.out hg1 (by omega))
          have R5n6 := Lib.hid (Row.grown2 R5n5.out hg1 (by have := HS5.out; omega))
          have HRn6 := Lib.hid hR1
          have HGn6 := Lib.hid (grown_then HGn5.out hg1)
          have HSn6 := Lib.hid (Nat.le_trans HSn5.out hg1.size)
          clear hR1 hg1
          refine hK _ _ R0n6.out (fun _ => ?_)
          clear hK K
          try simp only [Act.put, List.setIfInBounds_toArray, List.set_cons_zero, List.set_cons_succ]
          refine wpAnyH_take (i := 9) (oi := ⟨some 15, _, _, _, _, _⟩) (v := ?v9kn6) rfl (by kernel_rfl) (by kernel_rfl) (by kernel_rfl) (fun _ _ _ h => h) (Or.inl ⟨by rfl, ?y9kn6⟩) R0n6.out ?r9kn6
          case y9kn6 =>
            rintro w' hSw
            go_simp
            try with_reducible rfl
          try simp only [Act.put, List.setIfInBounds_toArray, List.set_cons_zero, List.set_cons_succ]
          refine wpAnyH_ready (rs := [11]) (by kernel_rfl) (by simp) ?_
          refine AllReadyH.cons rfl (fun K hK => ?_) AllReadyH.nil
          rw [if_pos (by rfl)]
          refine wp_store_whole 34 (.tmp 5) (.tmp 15) rfl g5 (ncs _ _ _) rfl rfl 34 zcs R5n6.out rfl ncs_one (by kernel_rfl) ?_
          intro w9 hr9 hg9
          have R09 := Lib.hid (Row.grown2 R0n6.out hg9 (by have := HS5.out; omega))
          have R49 := Lib.hid (Row.grown2 R4n6.out hg9 (by have := HS5.out; omega))
          have HR9 := Lib.hid (HRn6.out.grown hg9 (by have := HS5.out; omega))
          have HG9 := Lib.hid (grown_own HGn6.out hg9 (by have := HS5.out; omega))
          refine hK _ _ R09.out (fun _ => ?_)
          clear hK K
          try simp only [Act.put, List.setIfInBounds_toArray, List.set_cons_zero, List.set_cons_succ]
          refine wpAnyH_done (by kernel_rfl) ?_ _
          go_wp2_with fail
          go_meet
          exact ⟨g5, rfl, by have := HS5.out; omega, hr9, R09.out, R49.out, HR9.out, HG9.out⟩
      · go_simp
        obtain ⟨g5, hg5⟩ : ∃ g5, g5 = wn1.heap.size := ⟨_, rfl⟩
        have r5 : Row (wn1.alloc (.cells #[.int .u64 0, .int .i64 0, .int .u64 0, .int .u64 0, .int .i64 0, .int .i64 0, .slice none 0 0, .slice none 0 0, .int .u64 0] 34)) g5 34 zcs := by rw [hg5]; exact Row.new wn1 _ _
        rw [← hg5]
        have R0n7 := Lib.hid (R0n1.out.alloc (.cells #[.int .u64 0, .int .i64 0, .int .u64 0, .int .u64 0, .int .i64 0, .int .i64 0, .slice none 0 0, .slice none 0 0, .int .u64 0] 34))
        have R4n7 := Lib.hid (R4n1.out.alloc (.cells #[.int .u64 0, .int .i64 0, .int .u64 0, .int .u64 0, .int .i64 0, .int .i64 0, .slice none 0 0, .slice none 0 0, .int .u64 0] 34))
        have R5n7 := Lib.hid r5
        have HRn7 := Lib.hid (HRn1.out.below ((Below.refl _ _).alloc (Nat.le_refl _) (.cells #[.int .u64 0, .int .i64 0, .int .u64 0, .int .u64 0, .int .i64 0, .int .i64 0, .slice none 0 0, .slice none 0 0, .int .u64 0] 34)) HRn1.out.lt)
        have HGn7 := Lib.hid (grown_alloc HGn1.out (.cells #[.int .u64 0, .int .i64 0, .int .u64 0, .int .u64 0, .int .i64 0, .int .i64 0, .slice none 0 0, .slice none 0 0, .int .u64 0] 34))
        have HS5 : Hid (w.heap.size + 2 ≤ g5) := (show _ ≤ _ by rw [hg5]; exact HSn1.out)
        have HSn7 : Hid (w.heap.size + 2 ≤ (wn1.alloc (.cells #[.int .u64 0, .int .i64 0, .int .u64 0, .int .u64 0, .int .i64 0, .int .i64 0, .slice none 0 0, .slice none 0 0, .int .u64 0] 34)).heap.size) := (show _ ≤ _ by rw [World.size_alloc]; exact Nat.le_succ_of_le HSn1.out)
        generalize wn1.alloc (.cells #[.int .u64 0, .int .i64 0, .int .u64 0, .int .u64 0, .int .i64 0, .int .i64 0, .slice none 0 0, .slice none 0 0, .int .u64 0] 34) = wn7 at *
        clear hg5 r5
        refine hK _ _ R0n7.out (fun _ => ?_)
        clear hK K
        try simp only [Act.put, List.setIfInBounds_toArray, List.set_cons_zero, List.set_cons_succ]
        refine wpAnyH_ready (rs := [5]) (by kernel_rfl) (by simp) ?_
        refine (AllReadyH.cons rfl (fun K hK => ?_) AllReadyH.nil)
        go_simp
        refine (u64_any g l _ _ _ HRn7.out).mono ?_
        rintro e wn8 ⟨rfl, hR1, hg1⟩
        have R0n8 := Lib.hid (Row.grown2 R0n7.out hg1 (by omega))
        have R4n8 := Lib.hid (Row.grown2 R4n7.out hg1 (by omega))
        have R5n8 := Lib.hid (Row.grown2 R5n7.out hg1 (by have := HS5.out; omega))
        have HRn8 := Lib.hid hR1
        have HGn8 := Lib.hid (grown_then HGn7.out hg1)
        have HSn8 := Lib.hid (Nat.le_trans HSn7.out hg1.size)
        clear hR1 hg1
        refine hK _ _ R0n8.out (fun _ => ?_)
        clear hK K
        try simp only [Act.put, List.setIfInBounds_toArray, List.set_cons_zero, List.set_cons_succ]
        refine wpAnyH_ready (rs := [8]) (by kernel_rfl) (by simp) ?_
        refine (AllReadyH.cons rfl (fun K hK => ?_) AllReadyH.nil)
        go_simp
        refine (u64_any g l _ _ _ HRn8.out).mono ?_
        rintro e wn9 ⟨rfl, hR1, hg1⟩
        have R0n9 := Lib.hid (Row.grown2 R0n8.out hg1 (by omega))
        have R4n9 := Lib.hid (Row.grown2 R4n8.out hg1 (by omega))
        have R5n9 := Lib.hid (Row.grown2 R5n8.out hg1 (by have := HS5.out; omega))
        have HRn9 := Lib.hid hR1
        have HGn9 := Lib.hid (grown_then HGn8.out hg1)
        have HSn9 := Lib.hid (Nat.le_trans HSn8.out hg1.size)
        clear hR1 hg1
        refine hK _ _ R0n9.out (fun _ => ?_)
        clear hK K
        try simp only [Act.put, List.setIfInBounds_toArray, List.set_cons_zero, List.set_cons_succ]
        refine wpAnyH_take (i := 9) (oi := ⟨some 15, _, _, _, _, _⟩) (v := ?v9kn9) rfl (by kernel_rfl) (by kernel_rfl) (by kernel_rfl) (fun _ _ _ h => h) (Or.inl ⟨by rfl, ?y9kn9⟩) R0n9.out ?r9kn9
        case y9kn9 =>
          rintro w' hSw
          go_simp
          try with_reducible rfl
        try simp only [Act.put, List.setIfInBounds_toArray, List.set_cons_zero, List.set_cons_succ]
        refine wpAnyH_ready (rs := [11]) (by kernel_rfl) (by simp) ?_
        refine AllReadyH.cons rfl (fun K hK => ?_) AllReadyH.nil
        rw [if_pos (by rfl)]
        refine wp_store_whole 34 (.tmp 5) (.tmp 15) rfl g5 (ncs _ _ _) rfl rfl 34 zcs R5n9.out rfl ncs_one (by kernel_rfl) ?_
        intro w9 hr9 hg9
        have R09 := Lib.hid (Row.grown2 R0n9.out hg9 (by have := HS5.out; omega))
        have R49 := Lib.hid (Row.grown2 R4n9.out hg9 (by have := HS5.out; omega))
        have HR9 := Lib.hid (HRn9.out.grown hg9 (by have := HS5.out; omega))
        have HG9 := Lib.hid (grown_own HGn9.out hg9 (by have := HS5.out; omega))
        refine hK _ _ R09.out (fun _ => ?_)
        clear hK K
        try simp only [Act.put, List.setIfInBounds_toArray, List.set_cons_zero, List.set_cons_succ]
        refine wpAnyH_done (by kernel_rfl) ?_ _
        go_wp2_with fail
        go_meet
        exact ⟨g5, rfl, by have := HS5.out; omega, hr9, R09.out, R49.out, HR9.out, HG9.out⟩
    · go_simp
      obtain ⟨g5, hg5⟩ : ∃ g5, g5 = w1.heap.size := ⟨_, rfl⟩
      have r5 : Row (w1.alloc (.cells #[.int .u64 0, .int .i64 0, .int .u64 0, .int .u64 0, .int .i64 0, .int .i64 0, .slice none 0 0, .slice none 0 0, .int .u64 0] 34)) g5 34 zcs := by rw [hg5]; exact Row.new w1 _ _
      rw [← hg5]
      have R0n10 := Lib.hid (R0.out.alloc (.cells #[.int .u64 0, .int .i64 0, .int .u64 0, .int .u64 0, .int .i64 0, .int .i64 0, .slice none 0 0, .slice none 0 0, .int .u64 0] 34))
      have R4n10 := Lib.hid (R4.out.alloc (.cells #[.int .u64 0, .int .i64 0, .int .u64 0, .int .u64 0, .int .i64 0, .int .i64 0, .slice none 0 0, .slice none 0 0, .int .u64 0] 34))
      have R5n10 := Lib.hid r5
      have HRn10 := Lib.hid (HR.out.below ((Below.refl _ _).alloc (Nat.le_refl _) (.cells #[.int .u64 0, .int .i64 0, .int .u64 0, .int .u64 0, .int .i64 0, .int .i64 0, .slice none 0 0, .slice none 0 0, .int .u64 0] 34)) HR.out.lt)
      have HGn10 := Lib.hid (grown_alloc HG.out (.cells #[.int .u64 0, .int .i64 0, .int .u64 0, .int .u64 0, .int .i64 0, .int .i64 0, .slice none 0 0, .slice none 0 0, .int .u64 0] 34))
      have HS5 : Hid (w.heap.size + 2 ≤ g5) := (show _ ≤ _ by rw [hg5]; exact HS.out)
      have HSn10 : Hid (w.heap.size + 2 ≤ (w1.alloc (.cells #[.int .u64 0, .int .i64 0, .int .u64 0, .int .u64 0, .int .i64 0, .int .i64 0, .slice none 0 0, .slice none 0 0, .int .u64 0] 34)).heap.size) := (show _ ≤ _ by rw [World.size_alloc]; exact Nat.le_succ_of_le HS.out)
      generalize w1.alloc (.cells #[.int .u64 0, .int .i64 0, .int .u64 0, .int .u64 0, .int .i64 0, .int .i64 0, .slice none 0 0, .slice none 0 0, .int .u64 0] 34) = wn10 at *
      clear hg5 r5
      refine hK _ _ R0n10.out (fun _ => ?_)
      clear hK K
      try simp only [Act.put, List.setIfInBounds_toArray, List.set_cons_zero, List.set_cons_succ]
      refine wpAnyH_ready (rs := [2]) (by kernel_rfl) (by simp) ?_
      refine (AllReadyH.cons rfl (fun K hK => ?_) AllReadyH.nil)
      go_simp
      refine (u64_any g l _ _ _ HRn10.out).mono ?_
      rintro e wn11 ⟨rfl, hR1, hg1⟩
      have R0n11 := Lib.hid (Row.grown2 R0n10.out hg1 (by omega))
      have R4n11 := Lib.hid (Row.grown2 R4n10.out hg1 (by omega))
      have R5n11 := Lib.hid (Row.grown2 R5n10.out hg1 (by have := HS5.out; omega))
      have HRn11 := Lib.hid hR1
      have HGn11 := Lib.hid (grown_then HGn10.out hg1)
      have HSn11 := Lib.hid (Nat.le_trans HSn10.out hg1.size)
      clear hR1 hg1
      refine hK _ _ R0n11.out (fun _ => ?_)
      clear hK K
      try simp only [Act.put, List.setIfInBounds_toArray, List.set_cons_zero, List.set_cons_succ]
      refine wpAnyH_ready (rs := [5]) (by kernel_rfl) (by simp) ?_
      refine (AllReadyH.cons rfl (fun K hK => ?_) AllReadyH.nil)
      go_simp
      refine (u64_any g l _ _ _ HRn11.out).mono ?_
      rintro e wn12 ⟨rfl, hR1, hg1⟩
      have R0n12 := Lib.hid (Row.grown2 R0n11.out hg1 (by omega))
      have R4n12 := Lib.hid (Row.grown2 R4n11.out hg1 (by omega))
      have R5n12 := Lib.hid (Row.grown2 R5n11.out hg1 (by have := HS5.out; omega))
      have HRn12 := Lib.hid hR1
      have HGn12 := Lib.hid (grown_then HGn11.out hg1)
      have HSn12 := Lib.hid (Nat.le_trans HSn11.out hg1.size)
      clear hR1 hg1
      refine hK _ _ R0n12.out (fun _ => ?_)
      clear hK K
      try simp only [Act.put, List.setIfInBounds_toArray, List.set_cons_zero, List.set_cons_succ]
      refine wpAnyH_ready (rs := [8]) (by kernel_rfl) (by simp) ?_
      refine (AllReadyH.cons rfl (fun K hK => ?_) AllReadyH.nil)
      go_simp
      refine (u64_any g l _ _ _ HRn12.out).mono ?_
      rintro e wn13 ⟨rfl, hR1, hg1⟩
      have R0n13 := Lib.hid (Row.grown2 R0n12.out hg1 (by omega))
      have R4n13 := Lib.hid (Row.grown2 R4n12.out hg1 (by omega))
      have R5n13 := Lib.hid (Row.grown2 R5n12.out hg1 (by have := HS5.out; omega))
      have HRn13 := Lib.hid hR1
      have HGn13 := Lib.hid (grown_then HGn12.out hg1)
      have HSn13 := Lib.hid (Nat.le_trans HSn12.out hg1.size)
      clear hR1 hg1
      refine hK _ _ R0n13.out (fun _ => ?_)
      clear hK K
      try simp only [Act.put, List.setIfInBounds_toArray, List.set_cons_zero, List.set_cons_succ]
      refine wpAnyH_take (i := 9) (oi := ⟨some 15, _, _, _, _, _⟩) (v := ?v9kn13) rfl (by kernel_rfl) (by kernel_rfl) (by kernel_rfl) (fun _ _ _ h => h) (Or.inl ⟨by rfl, ?y9kn13⟩) R0n13.out ?r9kn13
      case y9kn13 =>
        rintro w' hSw
        go_simp
        try with_reducible rfl
      try simp only [Act.put, List.setIfInBounds_toArray, List.set_cons_zero, List.set_cons_succ]
      refine wpAnyH_ready (rs := [11]) (by kernel_rfl) (by simp) ?_
      refine AllReadyH.cons rfl (fun K hK => ?_) AllReadyH.nil
      rw [if_pos (by rfl)]
      refine wp_store_whole 34 (.tmp 5) (.tmp 15) rfl g5 (ncs _ _ _) rfl rfl 34 zcs R5n13.out rfl ncs_one (by kernel_rfl) ?_
      intro w9 hr9 hg9
      have R09 := Lib.hid (Row.grown2 R0n13.out hg9 (by have := HS5.out; omega))
      have R49 := Lib.hid (Row.grown2 R4n13.out hg9 (by have := HS5.out; omega))
      have HR9 := Lib.hid (HRn13.out.grown hg9 (by have := HS5.out; omega))
      have HG9 := Lib.hid (grown_own HGn13.out hg9 (by have := HS5.out; omega))
      refine hK _ _ R09.out (fun _ => ?_)
      clear hK K
      try simp only [Act.put, List.setIfInBounds_toArray, List.set_cons_zero, List.set_cons_succ]
      refine wpAnyH_done (by kernel_rfl) ?_ _
      go_wp2_with fail
      go_meet
      exact ⟨g5, rfl, by have := HS5.out; omega, hr9, R09.out, R49.out, HR9.out, HG9.out⟩
  case rest =>
    obtain ⟨g5, rfl, hg5, hr5, hr0, hr4, hR, hg⟩ := hcut
    have hgg : g < g5 := by omega
    have HF : FX w g l g5 (rn 8 l (rn 8 l (rn 8 l (at_, err)).2).2).2 (ncs (rn 8 l (at_, err)).1 (rn 8 l (rn 8 l (at_, err)).2).1 (rn 8 l (rn 8 l (rn 8 l (at_, err)).2).2).1) wc := ⟨hr5, hr0, hr4, hR, hg⟩
    have HF1 := Lib.hid HF
    clear HF hr5 hr0 hr4 hR hg HR HR0 HG0 HS0 R0 R4
    have HFM : Hid (∀ J2 J4 J8 J16, fieldsM l J2 J4 J8 J16 (at_, err) = (⟨(rn 8 l (at_, err)).1, 0, (rn 8 l (rn 8 l (at_, err)).2).1, (rn 8 l (rn 8 l (rn 8 l (at_, err)).2).2).1,
      ((pl J2 l (rn 8 l (rn 8 l (rn 8 l (at_, err)).2).2).2).1 : Int), ((pl J2 l (pl J2 l (rn 8 l (rn 8 l (rn 8 l (at_, err)).2).2).2).2).1 : Int), (it J4 l (pl J2 l (pl J2 l (rn 8 l (rn 8 l (rn 8 l (at_, err)).2).2).2).2).2).1, (it J8 l (it J4 l (pl J2 l (pl J2 l (rn 8 l (rn 8 l (rn 8 l (at_, err)).2).2).2).2).2).2).1,
      (nx J16 l (it J8 l (it J4 l (pl J2 l (pl J2 l (rn 8 l (rn 8 l (rn 8 l (at_, err)).2).2).2).2).2).2).2).1⟩, (nx J16 l (it J8 l (it J4 l (pl J2 l (pl J2 l (rn 8 l (rn 8 l (rn 8 l (at_, err)).2).2).2).2).2).2).2).2)) := fun _ _ _ _ => rfl
    generalize (rn 8 l (at_, err)).1 = a at HF1 HFM
    generalize (rn 8 l (rn 8 l (at_, err)).2).1 = b at HF1 HFM
    generalize (rn 8 l (rn 8 l (rn 8 l (at_, err)).2).2).1 = c at HF1 HFM
    generalize (rn 8 l (rn 8 l (rn 8 l (at_, err)).2).2).2 = p at HF1 HFM
    replace HZ := Lib.hid (HZ.out.trans (HFM.out J2 J4 J8 J16))
    clear HFM
    go_wp2_with fail
    refine (HH2.out _).mono ?_
    rintro e w' ⟨rfl, rfl⟩
    go_upto_if 17 with fail
    go_cut [16] from 18 to 27 (fun t16 wx => t16 = .int .u8 (f : Int) ∧ FX w g l g5 (pl J2 l (pl J2 l p).2).2 [.int .u64 (a : Int), .int .i64 0, .int .u64 (b : Int), .int .u64 (c : Int), .int .i64 ((pl J2 l p).1 : Int), .int .i64 ((pl J2 l (pl J2 l p).2).1 : Int), .slice none 0 0, .slice none 0 0, .int .u64 0] wx)
    case first =>
      cases J2
      · go_wp2_with fail
        go_meet
        exact ⟨rfl, HF1.out⟩
      · go_wp2_with fail
        have HS := HF1.out.2.1
        have hw1 : IntKind.i64.wrap ((num (Oct.step l p.1 p.2 1).1 : Nat) : Int) = ((rn 1 l p).1 : Int) := wrap_num l p
        have hw2 : IntKind.i64.wrap ((num (Oct.step l (rn 1 l p).2.1 (rn 1 l p).2.2 1).1 : Nat) : Int) = ((rn 1 l (rn 1 l p).2).1 : Int) := wrap_num l (rn 1 l p).2
        refine wp_region_held_drew (S := fun w' => Row w' w.heap.size 69 [.pointer (some ⟨g, 0, none⟩)]) (by kernel_rfl) (Row.drew HS) (fun hHeld => ?_)
        refine wpAnyH_take (i := 0) (oi := ⟨some 18, _, _, _, _, _⟩) (v := ?v0q) rfl (by kernel_rfl) (by kernel_rfl) (by kernel_rfl) (fun _ _ _ h => h) (Or.inl ⟨by rfl, ?y0q⟩) hHeld ?r0q
        case y0q =>
          rintro w' hSw
          go_simp
          try with_reducible rfl
        try simp only [Act.put, List.setIfInBounds_toArray, List.set_cons_zero, List.set_cons_succ]
        refine wpAnyH_take (i := 1) (oi := ⟨some 19, _, _, _, _, _⟩) (v := ?v1q) rfl (by kernel_rfl) (by kernel_rfl) (by kernel_rfl) (fun _ _ _ h => h) (Or.inl ⟨by rfl, ?y1q⟩) hHeld ?r1q
        case y1q =>
          rintro w' hSw
          have c0 : w'.cell? ⟨w.heap.size, 0, none⟩ = some (.pointer (some ⟨g, 0, none⟩)) := hSw.cell 0
          go_simp
          try with_reducible rfl
        try simp only [Act.put, List.setIfInBounds_toArray, List.set_cons_zero, List.set_cons_succ]
        refine wpAnyH_take (i := 4) (oi := ⟨some 22, _, _, _, _, _⟩) (v := ?v4q) rfl (by kernel_rfl) (by kernel_rfl) (by kernel_rfl) (fun _ _ _ h => h) (Or.inl ⟨by rfl, ?y4q⟩) hHeld ?r4q
        case y4q =>
          rintro w' hSw
          go_simp
          try with_reducible rfl
        try simp only [Act.put, List.setIfInBounds_toArray, List.set_cons_zero, List.set_cons_succ]
        refine wpAnyH_take (i := 5) (oi := ⟨some 23, _, _, _, _, _⟩) (v := ?v5q) rfl (by kernel_rfl) (by kernel_rfl) (by kernel_rfl) (fun _ _ _ h => h) (Or.inl ⟨by rfl, ?y5q⟩) hHeld ?r5q
        case y5q =>
          rintro w' hSw
          have c0 : w'.cell? ⟨w.heap.size, 0, none⟩ = some (.pointer (some ⟨g, 0, none⟩)) := hSw.cell 0
          go_simp
          try with_reducible rfl
        try simp only [Act.put, List.setIfInBounds_toArray, List.set_cons_zero, List.set_cons_succ]
        refine wpAnyH_ready (rs := [2]) (by kernel_rfl) (by simp) ?_
        refine AllReadyH.cons rfl (fun K hK => ?_) AllReadyH.nil
        go_simp
        refine (u8_any g l _ _ _ (show Rdr wc.drew g l p.1 p.2 from HF1.out.2.2.2.1)).mono ?_
        rintro e w1 ⟨rfl, hR1, hg1⟩
        replace hg1 : wc.grownBy w1 (some g) := grown_undrew hg1
        have HF2 := Lib.hid (HF1.out.reads hgg hg5 hgw (p' := (rn 1 l p).2) hR1 hg1)
        clear hR1 hg1
        refine hK _ _ HF2.out.2.1 (fun _ => ?_)
        clear hK K
        try simp only [Act.put, List.setIfInBounds_toArray, List.set_cons_zero, List.set_cons_succ]
        refine wpAnyH_take (i := 3) (oi := ⟨some 21, _, _, _, _, _⟩) (v := ?v3q) rfl (by kernel_rfl) (by kernel_rfl) (by kernel_rfl) (fun _ _ _ h => h) (Or.inl ⟨by rfl, ?y3q⟩) HF2.out.2.1 ?r3q
        case y3q =>
          rintro w' hSw
          go_simp
          try with_reducible rfl
        try simp only [Act.put, List.setIfInBounds_toArray, List.set_cons_zero, List.set_cons_succ]
        refine wpAnyH_take (i := 8) (oi := ⟨some 26, _, _, _, _, _⟩) (v := ?v8q) rfl (by kernel_rfl) (by kernel_rfl) (by kernel_rfl) (fun _ _ _ h => h) (Or.inl ⟨by rfl, ?y8q⟩) HF2.out.2.1 ?r8q
        case y8q =>
          rintro w' hSw
          go_simp
          try with_reducible rfl
        try simp only [Act.put, List.setIfInBounds_toArray, List.set_cons_zero, List.set_cons_succ]
        refine wpAnyH_ready (rs := [6]) (by kernel_rfl) (by simp) ?_
        refine AllReadyH.cons rfl (fun K hK => ?_) AllReadyH.nil
        go_simp
        refine (u8_any g l _ _ _ HF2.out.2.2.2.1).mono ?_
        rintro e w2 ⟨rfl, hR1, hg1⟩
        have HF3 := Lib.hid (HF2.out.reads hgg hg5 hgw (p' := (rn 1 l (rn 1 l p).2).2) hR1 hg1)
        clear hR1 hg1
        refine hK _ _ HF3.out.2.1 (fun _ => ?_)
        clear hK K
        try simp only [Act.put, List.setIfInBounds_toArray, List.set_cons_zero, List.set_cons_succ]
        refine wpAnyH_take (i := 7) (oi := ⟨some 25, _, _, _, _, _⟩) (v := ?v7q) rfl (by kernel_rfl) (by kernel_rfl) (by kernel_rfl) (fun _ _ _ h => h) (Or.inl ⟨by rfl, ?y7q⟩) HF3.out.2.1 ?r7q
        case y7q =>
          rintro w' hSw
          go_simp
          try with_reducible rfl
        try simp only [Act.put, List.setIfInBounds_toArray, List.set_cons_zero, List.set_cons_succ]
        refine wpAnyH_ready (rs := [9]) (by kernel_rfl) (by simp) ?_
        refine AllReadyH.cons rfl (fun K hK => ?_) AllReadyH.nil
        have hcl : w2.cell? ⟨g5, 4, none⟩ = some (.int .i64 0) := HF3.out.1.cell 4
        have hfr := HF3.out.1.frozen 4
        go_simp
        have HF4 := Lib.hid (show FX w g l g5 (rn 1 l (rn 1 l p).2).2 [.int .u64 (a : Int), .int .i64 0, .int .u64 (b : Int), .int .u64 (c : Int), .int .i64 ((rn 1 l p).1 : Int), .int .i64 0, .slice none 0 0, .slice none 0 0, .int .u64 0] (w2.setCell ⟨g5, 4, none⟩ (.int .i64 ((rn 1 l p).1 : Int))) from HF3.out.store hgg hg5 4 (.int .i64 ((rn 1 l p).1 : Int)))
        clear hcl hfr
        generalize w2.setCell ⟨g5, 4, none⟩ (.int .i64 ((rn 1 l p).1 : Int)) = HF4w at HF4 ⊢
        refine hK _ _ HF4.out.2.1 (fun _ => ?_)
        clear hK K
        try simp only [Act.put, List.setIfInBounds_toArray, List.set_cons_zero, List.set_cons_succ]
        refine wpAnyH_take (i := 10) (oi := ⟨some 27, _, _, _, _, _⟩) (v := ?v10q) rfl (by kernel_rfl) (by kernel_rfl) (by kernel_rfl) (fun _ _ _ h => h) (Or.inl ⟨by rfl, ?y10q⟩) HF4.out.2.1 ?r10q
        case y10q =>
          rintro w' hSw
          go_simp
          try with_reducible rfl
        try simp only [Act.put, List.setIfInBounds_toArray, List.set_cons_zero, List.set_cons_succ]
        refine wpAnyH_ready (rs := [11]) (by kernel_rfl) (by simp) ?_
        refine AllReadyH.cons rfl (fun K hK => ?_) AllReadyH.nil
        have hcl : HF4w.cell? ⟨g5, 5, none⟩ = some (.int .i64 0) := HF4.out.1.cell 5
        have hfr := HF4.out.1.frozen 5
        go_simp
        have HF5 := Lib.hid (show FX w g l g5 (rn 1 l (rn 1 l p).2).2 [.int .u64 (a : Int), .int .i64 0, .int .u64 (b : Int), .int .u64 (c : Int), .int .i64 ((rn 1 l p).1 : Int), .int .i64 ((rn 1 l (rn 1 l p).2).1 : Int), .slice none 0 0, .slice none 0 0, .int .u64 0] (HF4w.setCell ⟨g5, 5, none⟩ (.int .i64 ((rn 1 l (rn 1 l p).2).1 : Int))) from HF4.out.store hgg hg5 5 (.int .i64 ((rn 1 l (rn 1 l p).2).1 : Int)))
        clear hcl hfr
        generalize HF4w.setCell ⟨g5, 5, none⟩ (.int .i64 ((rn 1 l (rn 1 l p).2).1 : Int)) = HF5w at HF5 ⊢
        refine hK _ _ HF5.out.2.1 (fun _ => ?_)
        clear hK K
        try simp only [Act.put, List.setIfInBounds_toArray, List.set_cons_zero, List.set_cons_succ]
        refine wpAnyH_done (by kernel_rfl) ?_ _
        go_wp2_with fail
        go_meet
        exact ⟨rfl, HF5.out⟩
    case rest =>
      obtain ⟨rfl, HF⟩ := hcut
      have HF2 := Lib.hid HF
      clear HF HF1 HH2
      generalize (pl J2 l p).1 = d at HF2 HZ
      generalize (pl J2 l (pl J2 l p).2).1 = e at HF2 HZ
      generalize (pl J2 l (pl J2 l p).2).2 = p2 at HF2 HZ
      go_wp2_with fail
      refine (HH4.out _).mono ?_
      rintro e' w' ⟨rfl, rfl⟩
      go_upto_if 29 with fail
      go_cut [28] from 30 to 32 (fun t16 wx => t16 = .int .u8 (f : Int) ∧ FI w g l g5 (it J4 l p2).2 (fun Aq mq cq => [.int .u64 (a : Int), .int .i64 0, .int .u64 (b : Int), .int .u64 (c : Int), .int .i64 (d : Int), .int .i64 (e : Int), .slice Aq mq cq, .slice none 0 0, .int .u64 0]) (it J4 l p2).1 (fun _ => True) wx)
      case first =>
        cases J4
        · go_wp2_with fail
          go_meet
          exact ⟨rfl, none, 0, 0, HF2.out, IT.nil _ _, trivial⟩
        · have hc0 := HF2.out.2.1.cell 0
          simp only [List.getElem?_cons_zero] at hc0
          go_wp2_with fail
          refine (item_any g l _ _ _ HF2.out.2.2.2.1 HL.out).mono ?_
          rintro e' w1 ⟨A, m, c', rfl, hm, hA, hb, hR1, hg1, hbl⟩
          have HG1 := Lib.hid hg1
          have HFa := Lib.hid (HF2.out.reads hgg hg5 hgw (p' := (rb l p2).2) hR1 hg1)
          have HIT : Hid (IT w1 g5 (rb l p2).1 A m c') := ⟨hm.out, by rw [← hm.out]; exact rb_len l p2, hA, hb, fun b' o' e' => Nat.lt_of_lt_of_le (Row.lt HF2.out.1) (hbl b' o' e')⟩
          clear hR1 hg1 hm hA hb hbl hc0
          have hcl : w1.cell? ⟨g5, 6, none⟩ = some (.slice none 0 0) := HFa.out.1.cell 6
          have hfr := HFa.out.1.frozen 6
          have HFb := Lib.hid (show FX w g l g5 (rb l p2).2 ((fun (Aq : Option Addr) (mq cq : Nat) => [.int .u64 (a : Int), .int .i64 0, .int .u64 (b : Int), .int .u64 (c : Int), .int .i64 (d : Int), .int .i64 (e : Int), .slice Aq mq cq, .slice none 0 0, .int .u64 0]) A m c') (w1.setCell ⟨g5, 6, none⟩ (.slice A m c')) from HFa.out.store hgg hg5 6 (.slice A m c'))
          have HGS := Lib.hid (set_grown w1 g5 6 (.slice A m c'))
          go_wp2_with fail
          go_meet
          exact ⟨rfl, A, m, c', HFb.out, HIT.out.grown HGS.out (Nat.le_refl _), trivial⟩
      case rest =>
        obtain ⟨rfl, Ao, no, co, HF, HI, _⟩ := hcut
        have HF3 := Lib.hid HF
        have HI3 := Lib.hid HI
        clear HF HI HF2 HH4
        generalize (it J4 l p2).1 = qo at HI3 HZ
        generalize (it J4 l p2).2 = p3 at HF3 HZ
        go_wp2_with fail
        refine (HH8.out _).mono ?_
        rintro e' w' ⟨rfl, rfl⟩
        go_upto_if 34 with fail
        go_cut [33] from 35 to 37 (fun t16 wx => t16 = .int .u8 (f : Int) ∧ FI w g l g5 (it J8 l p3).2 (fun Aq mq cq => [.int .u64 (a : Int), .int .i64 0, .int .u64 (b : Int), .int .u64 (c : Int), .int .i64 (d : Int), .int .i64 (e : Int), .slice Ao no co, .slice Aq mq cq, .int .u64 0]) (it J8 l p3).1 (fun wx => IT wx g5 qo Ao no co) wx)
        case first =>
          cases J8
          · go_wp2_with fail
            go_meet
            exact ⟨rfl, none, 0, 0, HF3.out, IT.nil _ _, HI3.out⟩
          · have hc0 := HF3.out.2.1.cell 0
            simp only [List.getElem?_cons_zero] at hc0
            go_wp2_with fail
            refine (item_any g l _ _ _ HF3.out.2.2.2.1 HL.out).mono ?_
            rintro e' w1 ⟨A, m, c', rfl, hm, hA, hb, hR1, hg1, hbl⟩
            have HG1 := Lib.hid hg1
            have HFa := Lib.hid (HF3.out.reads hgg hg5 hgw (p' := (rb l p3).2) hR1 hg1)
            have HIT : Hid (IT w1 g5 (rb l p3).1 A m c') := ⟨hm.out, by rw [← hm.out]; exact rb_len l p3, hA, hb, fun b' o' e' => Nat.lt_of_lt_of_le (Row.lt HF3.out.1) (hbl b' o' e')⟩
            clear hR1 hg1 hm hA hb hbl hc0
            have hcl : w1.cell? ⟨g5, 7, none⟩ = some (.slice none 0 0) := HFa.out.1.cell 7
            have hfr := HFa.out.1.frozen 7
            have HFb := Lib.hid (show FX w g l g5 (rb l p3).2 ((fun (Aq : Option Addr) (mq cq : Nat) => [.int .u64 (a : Int), .int .i64 0, .int .u64 (b : Int), .int .u64 (c : Int), .int .i64 (d : Int), .int .i64 (e : Int), .slice Ao no co, .slice Aq mq cq, .int .u64 0]) A m c') (w1.setCell ⟨g5, 7, none⟩ (.slice A m c')) from HFa.out.store hgg hg5 7 (.slice A m c'))
            have HGS := Lib.hid (set_grown w1 g5 7 (.slice A m c'))
            go_wp2_with fail
            go_meet
            exact ⟨rfl, A, m, c', HFb.out, HIT.out.grown HGS.out (Nat.le_refl _), (HI3.out.grown HG1.out (by omega)).grown HGS.out (Nat.le_refl _)⟩
        case rest =>
          obtain ⟨rfl, An, nn, cn, HF, HI, HJ⟩ := hcut
          have HF4 := Lib.hid HF
          have HIO := Lib.hid HJ
          have HIN := Lib.hid HI
          clear HF HI HJ HF3 HI3 HH8
          generalize (it J8 l p3).1 = qn at HIN HZ
          generalize (it J8 l p3).2 = p4 at HF4 HZ
          go_wp2_with fail
          refine (HH16.out _).mono ?_
          rintro e' w' ⟨rfl, rfl⟩
          go_upto_if 39 with fail
          go_cut [38] from 40 to 43 (fun t16 wx => t16 = .int .u8 (f : Int) ∧ FX w g l g5 (nx J16 l p4).2 [.int .u64 (a : Int), .int .i64 0, .int .u64 (b : Int), .int .u64 (c : Int), .int .i64 (d : Int), .int .i64 (e : Int), .slice Ao no co, .slice An nn cn, .int .u64 ((nx J16 l p4).1 : Int)] wx ∧ IT wx g5 qo Ao no co ∧ IT wx g5 qn An nn cn)
          case first =>
            cases J16
            · go_wp2_with fail
              go_meet
              exact ⟨rfl, HF4.out, HIO.out, HIN.out⟩
            · have hc0 := HF4.out.2.1.cell 0
              simp only [List.getElem?_cons_zero] at hc0
              go_wp2_with fail
              refine (u64_any g l _ _ _ HF4.out.2.2.2.1).mono ?_
              rintro e' w1 ⟨rfl, hR1, hg1⟩
              have HG1 := Lib.hid hg1
              have HFa := Lib.hid (HF4.out.reads hgg hg5 hgw (p' := (rn 8 l p4).2) hR1 hg1)
              clear hR1 hg1 hc0
              have hcl : w1.cell? ⟨g5, 8, none⟩ = some (.int .u64 0) := HFa.out.1.cell 8
              have hfr := HFa.out.1.frozen 8
              have HFb := Lib.hid (show FX w g l g5 (rn 8 l p4).2 [.int .u64 (a : Int), .int .i64 0, .int .u64 (b : Int), .int .u64 (c : Int), .int .i64 (d : Int), .int .i64 (e : Int), .slice Ao no co, .slice An nn cn, .int .u64 ((rn 8 l p4).1 : Int)] (w1.setCell ⟨g5, 8, none⟩ (.int .u64 ((rn 8 l p4).1 : Int))) from HFa.out.store hgg hg5 8 (.int .u64 ((rn 8 l p4).1 : Int)))
              have HGS := Lib.hid (set_grown w1 g5 8 (.int .u64 ((rn 8 l p4).1 : Int)))
              go_wp2_with fail
              go_meet
              exact ⟨rfl, HFb.out, (HIO.out.grown HG1.out (by omega)).grown HGS.out (Nat.le_refl _), (HIN.out.grown HG1.out (by omega)).grown HGS.out (Nat.le_refl _)⟩
          case rest =>
            obtain ⟨rfl, HF, HI, HJ⟩ := hcut
            have HF5 := Lib.hid HF
            have HO5 := Lib.hid HI
            have HN5 := Lib.hid HJ
            clear HF HI HJ HF4 HIO HIN HH16
            generalize (nx J16 l p4).1 = x at HF5 HZ
            generalize (nx J16 l p4).2 = p5 at HF5 HZ
            have HF6 := Lib.hid (show FX w g l g5 p5 (rcs ⟨a, 0, b, c, (d : Int), (e : Int), qo, qn, x⟩ ⟨Ao, no, co, An, nn, cn⟩) _ from HF5.out)
            clear HF5
            have HW5 := Lib.hid (show Row wc g5 34 (rcs ⟨a, 0, b, c, (d : Int), (e : Int), qo, qn, x⟩ ⟨Ao, no, co, An, nn, cn⟩) from HF6.out.1)
            have HW4 := Lib.hid (show Row wc (w.heap.size + 1) 34 zcs from HF6.out.2.2.1)
            have HI := Lib.hid (show (Try.prog.info? 34).map (·.size) = some (rcs ⟨a, 0, b, c, (d : Int), (e : Int), qo, qn, x⟩ ⟨Ao, no, co, An, nn, cn⟩).length from rec_info)
            have HLE := Lib.hid (show (rcs ⟨a, 0, b, c, (d : Int), (e : Int), qo, qn, x⟩ ⟨Ao, no, co, An, nn, cn⟩).length = zcs.length from rfl)
            have H1 : Hid (∀ v ∈ (rcs ⟨a, 0, b, c, (d : Int), (e : Int), qo, qn, x⟩ ⟨Ao, no, co, An, nn, cn⟩), v.oneCell' = true) := rcs_one (r := ⟨a, 0, b, c, (d : Int), (e : Int), qo, qn, x⟩) (s := ⟨Ao, no, co, An, nn, cn⟩)
            go_wp2_with (first
              | (with_reducible refine wpList_load_row (op := ⟨some 44, _, _, _, _, _⟩) ?_ 34 (.tmp 5) ?_ g5 0 ?_ (rcs ⟨a, 0, b, c, (d : Int), (e : Int), qo, qn, x⟩ ⟨Ao, no, co, An, nn, cn⟩) _ (Row.all HW5.out) Try.underlying34 ?_ HI.out ?_)
              | (with_reducible refine wpList_store_whole (op := ⟨none, _, _, _, _, _⟩) ?_ 34 (.tmp 4) (.tmp 44) ?_ (w.heap.size + 1) (rcs ⟨a, 0, b, c, (d : Int), (e : Int), qo, qn, x⟩ ⟨Ao, no, co, An, nn, cn⟩) ?_ ?_ 34 zcs HW4.out HLE.out H1.out HI.out ?_))
            all_goals try (first | rfl | (simp; done))
            intro w8 hr8 hg8
            have HRES := Lib.hid (run_loadVar_mid (P := Try.prog) w8 (w.heap.size + 1) 0 34 (rcs ⟨a, 0, b, c, (d : Int), (e : Int), qo, qn, x⟩ ⟨Ao, no, co, An, nn, cn⟩) _ (Row.all hr8) Try.underlying34 rfl HI.out)
            have HR8 := Lib.hid (HF6.out.2.2.2.1.grown hg8 (by omega))
            have HG8 := Lib.hid (grown_own HF6.out.2.2.2.2 hg8 (by omega))
            have HO8 := Lib.hid (HO5.out.grown hg8 (by omega))
            have HN8 := Lib.hid (HN5.out.grown hg8 (by omega))
            clear hr8 hg8
            go_wp2
            refine bodyPost_ret (v := .agg (rcs ⟨a, 0, b, c, (d : Int), (e : Int), qo, qn, x⟩ ⟨Ao, no, co, An, nn, cn⟩).toArray) (results_cell (p := 4) (ty := 34) rfl _ _ ⟨w.heap.size + 1, 0, none⟩ _ rfl HRES.out) rfl ?_
            rw [HZ.out]
            refine ⟨⟨Ao, no, co, An, nn, cn⟩, rfl, ⟨HO8.out.1, HN8.out.1, ?_, ?_, HO8.out.2.2.2.1, HN8.out.2.2.2.1, HO8.out.2.2.1, HN8.out.2.2.1⟩, HR8.out, HG8.out⟩
            · have := HO8.out.2.1; show no ≤ _; omega
            · have := HN8.out.2.1; show nn ≤ _; omega
end Go.Proofs.Ytnljhopikjkflaa.Rec
