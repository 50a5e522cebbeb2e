/-
  Keys: the reference's Box, inside, Right, Meets, Covers, Union; Check of whatever class.
-/
import Derived.Test.YtnojkoefdigcnaaKy3
import Derived.LoopTactic
import Derived.Deep.RegionHeld
import Derived.Deep.Cut
import Derived.WalkLawsBesides
namespace Go.Proofs.Ytnojkoefdigcnaa.Ky
set_option maxRecDepth 100000
open Go.RowKit Go.Proofs.Ytnojkoefdigcnaa.Wd Go.Proofs.Ytnojkoefdigcnaa.Wi Go.Proofs.Ytnojkoefdigcnaa.Lift


theorem Box_ref (x0 x1 y0 y1 : Int) (w : World) : Calls Try.prog 35 #[KV x0 x1 y0 y1] w fun e w' => e = .returned (.bool (boxB x0 x1 y0 y1)) ∧ Below w.heap.size w w' := by
  by_cases h1 : x0 ≤ x1
  · by_cases h2 : y0 ≤ y1
    · rw [show boxB x0 x1 y0 y1 = true from by simp [boxB]; omega]
      go_enter Try.func35, Try.ntmps35
      go_wp2
      go_ret
      exact ⟨rfl, (Below.refl _ _).alloc (Nat.le_refl _) _⟩
    · rw [show boxB x0 x1 y0 y1 = false from by simp [boxB]; omega]
      go_enter Try.func35, Try.ntmps35
      go_wp2
      go_ret
      exact ⟨rfl, (Below.refl _ _).alloc (Nat.le_refl _) _⟩
  · rw [show boxB x0 x1 y0 y1 = false from by simp [boxB]; omega]
    go_enter Try.func35, Try.ntmps35
    go_wp2
    go_ret
    exact ⟨rfl, (Below.refl _ _).alloc (Nat.le_refl _) _⟩

def insideB (a b x : Int) : Bool := decide (a ≤ x) && decide (x ≤ b)
/-- is a key of a class? -/
def rightB (c : Int) (x0 x1 y0 y1 : Int) : Bool := boxB x0 x1 y0 y1 && (decide (c = 1) || decide (c = 2 ∧ y0 = 0 ∧ y1 = 0) || decide (c = 3 ∧ x0 = x1 ∧ y0 = y1))

set_option maxHeartbeats 4000000 in
theorem Check_any (c x0 x1 y0 y1 : Int) (w : World) : Calls Try.prog 34 #[.int .i64 c, KV x0 x1 y0 y1] w fun e w' => e = .returned (.int .i64 (if rightB c x0 x1 y0 y1 then 0 else 2)) ∧ Below w.heap.size w w' := by
  by_cases h0 : x0 ≤ x1
  · by_cases h1 : y0 ≤ y1
    · by_cases h2 : c = 1
      · subst h2
        rw [show rightB (1) (x0) (x1) (y0) (y1) = true from by simp [rightB, boxB] <;> omega]
        go_enter Try.func34, Try.ntmps34
        go_wp2
        go_ret
        exact ⟨rfl, (Below.refl _ _).alloc (Nat.le_refl _) _⟩
      · by_cases h4 : c = 2
        · subst h4
          by_cases h5 : y0 = 0
          · subst h5
            by_cases h6 : y1 = 0
            · subst h6
              rw [show rightB (2) (x0) (x1) (0) (0) = true from by simp [rightB, boxB] <;> omega]
              go_enter Try.func34, Try.ntmps34
              go_wp2
              go_ret
              exact ⟨rfl, (Below.refl _ _).alloc (Nat.le_refl _) _⟩
            · rw [show rightB (2) (x0) (x1) (0) (y1) = false from by simp [rightB, boxB] <;> omega]
              go_enter Try.func34, Try.ntmps34
              go_wp2
              go_ret
              exact ⟨rfl, (Below.refl _ _).alloc (Nat.le_refl _) _⟩
          · rw [show rightB (2) (x0) (x1) (y0) (y1) = false from by simp [rightB, boxB] <;> omega]
            go_enter Try.func34, Try.ntmps34
            go_wp2
            go_ret
            exact ⟨rfl, (Below.refl _ _).alloc (Nat.le_refl _) _⟩
        · by_cases h10 : c = 3
          · subst h10
            by_cases h11 : x0 = x1
            · subst h11
              by_cases h12 : y0 = y1
              · subst h12
                rw [show rightB (3) (x0) (x0) (y0) (y0) = true from by simp [rightB, boxB] <;> omega]
                go_enter Try.func34, Try.ntmps34
                go_wp2
                go_ret
                exact ⟨rfl, (Below.refl _ _).alloc (Nat.le_refl _) _⟩
              · rw [show rightB (3) (x0) (x0) (y0) (y1) = false from by simp [rightB, boxB] <;> omega]
                go_enter Try.func34, Try.ntmps34
                go_wp2
                go_ret
                exact ⟨rfl, (Below.refl _ _).alloc (Nat.le_refl _) _⟩
            · rw [show rightB (3) (x0) (x1) (y0) (y1) = false from by simp [rightB, boxB] <;> omega]
              go_enter Try.func34, Try.ntmps34
              go_wp2
              go_ret
              exact ⟨rfl, (Below.refl _ _).alloc (Nat.le_refl _) _⟩
          · rw [show rightB (c) (x0) (x1) (y0) (y1) = false from by simp [rightB, boxB] <;> omega]
            go_enter Try.func34, Try.ntmps34
            go_wp2
            go_ret
            exact ⟨rfl, (Below.refl _ _).alloc (Nat.le_refl _) _⟩
    · by_cases h17 : c = 1
      · subst h17
        first | (exfalso; omega) | skip
        all_goals
          rw [show rightB (1) (x0) (x1) (y0) (y1) = false from by simp [rightB, boxB] <;> omega]
          go_enter Try.func34, Try.ntmps34
          go_wp2
          go_ret
          exact ⟨rfl, (Below.refl _ _).alloc (Nat.le_refl _) _⟩
      · by_cases h19 : c = 2
        · subst h19
          by_cases h20 : y0 = 0
          · subst h20
            by_cases h21 : y1 = 0
            · subst h21
              first | (exfalso; omega) | skip
              all_goals
                rw [show rightB (2) (x0) (x1) (0) (0) = false from by simp [rightB, boxB] <;> omega]
                go_enter Try.func34, Try.ntmps34
                go_wp2
                go_ret
                exact ⟨rfl, (Below.refl _ _).alloc (Nat.le_refl _) _⟩
            · first | (exfalso; omega) | skip
              all_goals
                rw [show rightB (2) (x0) (x1) (0) (y1) = false from by simp [rightB, boxB] <;> omega]
                go_enter Try.func34, Try.ntmps34
                go_wp2
                go_ret
                exact ⟨rfl, (Below.refl _ _).alloc (Nat.le_refl _) _⟩
          · first | (exfalso; omega) | skip
            all_goals
              rw [show rightB (2) (x0) (x1) (y0) (y1) = false from by simp [rightB, boxB] <;> omega]
              go_enter Try.func34, Try.ntmps34
              go_wp2
              go_ret
              exact ⟨rfl, (Below.refl _ _).alloc (Nat.le_refl _) _⟩
        · by_cases h25 : c = 3
          · subst h25
            by_cases h26 : x0 = x1
            · subst h26
              by_cases h27 : y0 = y1
              · subst h27
                first | (exfalso; omega) | skip
                all_goals
                  rw [show rightB (3) (x0) (x0) (y0) (y0) = false from by simp [rightB, boxB] <;> omega]
                  go_enter Try.func34, Try.ntmps34
                  go_wp2
                  go_ret
                  exact ⟨rfl, (Below.refl _ _).alloc (Nat.le_refl _) _⟩
              · first | (exfalso; omega) | skip
                all_goals
                  rw [show rightB (3) (x0) (x0) (y0) (y1) = false from by simp [rightB, boxB] <;> omega]
                  go_enter Try.func34, Try.ntmps34
                  go_wp2
                  go_ret
                  exact ⟨rfl, (Below.refl _ _).alloc (Nat.le_refl _) _⟩
            · first | (exfalso; omega) | skip
              all_goals
                rw [show rightB (3) (x0) (x1) (y0) (y1) = false from by simp [rightB, boxB] <;> omega]
                go_enter Try.func34, Try.ntmps34
                go_wp2
                go_ret
                exact ⟨rfl, (Below.refl _ _).alloc (Nat.le_refl _) _⟩
          · first | (exfalso; omega) | skip
            all_goals
              rw [show rightB (c) (x0) (x1) (y0) (y1) = false from by simp [rightB, boxB] <;> omega]
              go_enter Try.func34, Try.ntmps34
              go_wp2
              go_ret
              exact ⟨rfl, (Below.refl _ _).alloc (Nat.le_refl _) _⟩
  · by_cases h32 : c = 1
    · subst h32
      first | (exfalso; omega) | skip
      all_goals
        rw [show rightB (1) (x0) (x1) (y0) (y1) = false from by simp [rightB, boxB] <;> omega]
        go_enter Try.func34, Try.ntmps34
        go_wp2
        go_ret
        exact ⟨rfl, (Below.refl _ _).alloc (Nat.le_refl _) _⟩
    · by_cases h34 : c = 2
      · subst h34
        by_cases h35 : y0 = 0
        · subst h35
          by_cases h36 : y1 = 0
          · subst h36
            first | (exfalso; omega) | skip
            all_goals
              rw [show rightB (2) (x0) (x1) (0) (0) = false from by simp [rightB, boxB] <;> omega]
              go_enter Try.func34, Try.ntmps34
              go_wp2
              go_ret
              exact ⟨rfl, (Below.refl _ _).alloc (Nat.le_refl _) _⟩
          · first | (exfalso; omega) | skip
            all_goals
              rw [show rightB (2) (x0) (x1) (0) (y1) = false from by simp [rightB, boxB] <;> omega]
              go_enter Try.func34, Try.ntmps34
              go_wp2
              go_ret
              exact ⟨rfl, (Below.refl _ _).alloc (Nat.le_refl _) _⟩
        · first | (exfalso; omega) | skip
          all_goals
            rw [show rightB (2) (x0) (x1) (y0) (y1) = false from by simp [rightB, boxB] <;> omega]
            go_enter Try.func34, Try.ntmps34
            go_wp2
            go_ret
            exact ⟨rfl, (Below.refl _ _).alloc (Nat.le_refl _) _⟩
      · by_cases h40 : c = 3
        · subst h40
          by_cases h41 : x0 = x1
          · subst h41
            by_cases h42 : y0 = y1
            · subst h42
              first | (exfalso; omega) | skip
              all_goals
                rw [show rightB (3) (x0) (x0) (y0) (y0) = false from by simp [rightB, boxB] <;> omega]
                go_enter Try.func34, Try.ntmps34
                go_wp2
                go_ret
                exact ⟨rfl, (Below.refl _ _).alloc (Nat.le_refl _) _⟩
            · first | (exfalso; omega) | skip
              all_goals
                rw [show rightB (3) (x0) (x0) (y0) (y1) = false from by simp [rightB, boxB] <;> omega]
                go_enter Try.func34, Try.ntmps34
                go_wp2
                go_ret
                exact ⟨rfl, (Below.refl _ _).alloc (Nat.le_refl _) _⟩
          · first | (exfalso; omega) | skip
            all_goals
              rw [show rightB (3) (x0) (x1) (y0) (y1) = false from by simp [rightB, boxB] <;> omega]
              go_enter Try.func34, Try.ntmps34
              go_wp2
              go_ret
              exact ⟨rfl, (Below.refl _ _).alloc (Nat.le_refl _) _⟩
        · first | (exfalso; omega) | skip
          all_goals
            rw [show rightB (c) (x0) (x1) (y0) (y1) = false from by simp [rightB, boxB] <;> omega]
            go_enter Try.func34, Try.ntmps34
            go_wp2
            go_ret
            exact ⟨rfl, (Below.refl _ _).alloc (Nat.le_refl _) _⟩
end Go.Proofs.Ytnojkoefdigcnaa.Ky
