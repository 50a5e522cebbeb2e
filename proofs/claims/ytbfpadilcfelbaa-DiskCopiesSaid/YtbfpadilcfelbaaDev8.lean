/-
  The contract of wakes.
-/
import Derived.Test.YtbfpadilcfelbaaDev7
namespace Go.Proofs.Ytbfpadilcfelbaa.Dsk
open Go.RowKit Go.Proofs.Ytbfpadilcfelbaa.Wd

def seven : List UInt8 := 7 :: List.replicate 63 0
theorem built_seven : Try.prog.built 39 [(0, .int .u8 7)] = some (bv seven).toArray := by kernel_rfl
theorem built_zero : Try.prog.built 39 [] = some (bv nought).toArray := by kernel_rfl
def dw1 : DM := ⟨[nought, seven], [(1, nought, seven)], false, false, 0, false, 0, 1⟩
def dw2 : DM := ⟨[nought, seven], [(1, nought, seven)], false, false, 0, false, 0, 2⟩
theorem wakes_write : (DM.new 2).writeM 1 seven = (dw1, 0) := by simp [DM.writeM, DM.pre, DM.new, DM.put, DM.tally, dw1, wrap64]
theorem wakes_read : dw1.readM 1 = (dw2, seven, 0) := by simp [DM.readM, DM.pre, DM.tally, dw1, dw2, wrap64]
section
variable {w w' w'' : World} {F F' : Nat → Prop} {g : Nat} {d : DM}
/-- a disk that a call goes on with lies beyond B where it lay there -/
theorem Goes.far {B : Nat} (h : Goes F w g d w') (hF : ∀ k, F k → B ≤ k) (hB : B ≤ w.heap.size) : ∃ F', Disk w' F' g d ∧ (∀ k, F' k → B ≤ k) ∧ Below B w w' := by
  obtain ⟨F', h1, hx, ho⟩ := h
  refine ⟨F', h1, fun k hk => ?_, ho.below hF hB⟩
  rcases hx k hk with h2 | h2
  · exact hF k h2
  · omega
end
set_option maxRecDepth 100000 in
set_option maxHeartbeats 1000000 in
theorem wakes_any (w : World) : Calls Try.prog 6 #[] w fun e w' => e = .returned (.bool true) ∧ Below w.heap.size w w' := by
  have HBS := Lib.hid built_seven
  go_enter Try.func6, Try.ntmps6
  go_wp2_with fail
  refine (dnew_good 2 _ (by omega) (by omega)).mono ?_
  rintro e w1 ⟨g, rfl, F1, hD1, hF1, hb1⟩
  have HD1 := Lib.hid hD1
  have HF1 := Lib.hid hF1
  have HB1 := Lib.hid hb1
  clear hD1 hF1 hb1
  go_wp2_with (first
    | (with_reducible refine wpList_build_to (o := ⟨some 16, _, _, _, _, _⟩) (by rfl) 39 _ rfl (bv seven).toArray HBS.out ?_))
  refine (write_any g (DM.new 2) F1 1 seven _ HD1.out rfl (by simp [DM.new])).mono ?_
  rintro e w2 ⟨rfl, hG⟩
  rw [wakes_write] at hG ⊢
  obtain ⟨F2, hD2, hF2, hb2⟩ := hG.far HF1.out HB1.out.size
  have HD2 := Lib.hid hD2
  have HF2 := Lib.hid hF2
  have HB2 := Lib.hid (HB1.out.trans hb2)
  clear hG hD2 hF2 hb2 HD1 HF1 HB1
  go_wp2_with fail
  refine (read_any g dw1 F2 1 _ HD2.out).mono ?_
  rintro e w3 ⟨rfl, hG⟩
  rw [wakes_read] at hG ⊢
  obtain ⟨F3, hD3, hF3, hb3⟩ := hG.far HF2.out HB2.out.size
  have HB3 := Lib.hid (HB2.out.trans hb3)
  have hD3' := hD3.below (w' := w3.alloc (.cells (bv nought).toArray 39)) ((Below.refl _ _).alloc (Nat.le_refl _) _)
  have HD3 := Lib.hid hD3
  have HF3 := Lib.hid hF3
  have R3 := Lib.hid (Row.new w3 39 (bv nought))
  have HSB : Hid ((Try.prog.info? 39).map (·.size) = some (bv seven).length) := (show _ = _ by rw [bv_length]; exact size39)
  clear hG hD3 hF3 hb3 HD2 HF2 HB2 hD3'
  go_wp2_with (first
    | (with_reducible refine wpList_store_in (op := ⟨none, _, _, _, _, _⟩) ?_ 39 (.tmp 3) (.tmp 23) ?_ w3.heap.size 0 (bv seven) ?_ ?_ 39 (bv nought) ?_ (Nat.le_of_eq (Nat.zero_add _)) bv_one HSB.out ?_))
  all_goals try (first | rfl | exact R3.out)
  intro w4 hr4 hg4
  rw [splice_all (bv nought) (bv seven) rfl] at hr4
  have c0 : w4.cell? ⟨w3.heap.size, 0, none⟩ = some (.int .u8 7) := hr4.cell 0
  have hb34 : Below w3.heap.size w3 w4 := ((Below.refl _ _).alloc (Nat.le_refl _) _).grown hg4 (by simp) (fun k e => by have := Option.some.inj e; omega)
  have HD4 := Lib.hid (HD3.out.below hb34)
  have HB4 := Lib.hid (HB3.out.trans (hb34.mono HB3.out.size))
  clear hr4 hg4 hb34 HB3 R3 HD3
  go_wp2_with fail
  refine (pending_any g dw2 F3 _ HD4.out (by simp [dw2])).mono ?_
  rintro e w5 ⟨rfl, _, hb5⟩
  have HD5 := Lib.hid (HD4.out.below hb5)
  have HB5 := Lib.hid (HB4.out.trans (hb5.mono HB4.out.size))
  clear hb5 HD4 HB4
  go_wp2_with fail
  refine (len_any g dw2 F3 _ HD5.out.1).mono ?_
  rintro e w6 ⟨rfl, rfl⟩
  go_wp2
  go_ret
  exact ⟨rfl, HB5.out⟩
end Go.Proofs.Ytbfpadilcfelbaa.Dsk
