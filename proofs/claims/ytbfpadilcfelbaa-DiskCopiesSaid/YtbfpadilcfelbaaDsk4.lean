/-
  The contracts of the reference's New and of the statements' kind.
-/
import Derived.Test.YtbfpadilcfelbaaDsk3
namespace Go.Proofs.Ytbfpadilcfelbaa.Dsk
open Go.RowKit Go.Proofs.Ytbfpadilcfelbaa.Wd

/-- an op's kind -/
def kindM (x : Int) : Int := wrap64 ((IntKind.u64.wrap x).tmod 6)
theorem kindM_in (x : Int) : kindM x = 0 ∨ kindM x = 1 ∨ kindM x = 2 ∨ kindM x = 3 ∨ kindM x = 4 ∨ kindM x = 5 := by
  unfold kindM
  have h0 : 0 ≤ IntKind.u64.wrap x := by rw [IntKind.wrap_u64]; exact Int.emod_nonneg _ (by omega)
  generalize IntKind.u64.wrap x = y at h0
  rw [Int.tmod_eq_emod_of_nonneg h0]
  have h1 := Int.emod_nonneg y (show (6 : Int) ≠ 0 by omega)
  have h2 := Int.emod_lt_of_pos y (show (0 : Int) < 6 by omega)
  generalize y % 6 = z at h1 h2
  have e : wrap64 z = z := by unfold wrap64; omega
  rw [e]; omega

theorem kind_any (kind at_ : Int) (fv : Value) (f : Int) (hf : fv = .int .u8 f) (A : Option Addr) (n c : Nat) (w : World) :
    Calls Try.prog 25 #[.agg #[.int .i64 kind, .int .i64 at_, fv, .slice A n c]] w fun e w' => e = .returned (.int .i64 (kindM kind)) ∧ Below w.heap.size w w' := by
  subst hf
  go_enter Try.func25, Try.ntmps25
  go_wp2
  go_ret
  exact ⟨rfl, (Below.refl _ _).alloc (Nat.le_refl _) _⟩

set_option maxHeartbeats 1000000 in
theorem new_bad (n : Int) (w : World) (h : n < 1 ∨ 2048 < n) :
    Calls Try.prog 8 #[.int .i64 n] w fun e w' => e = .returned (.tuple #[.agg #[.slice none 0 0, .slice none 0 0, .bool false, .int .i64 0, .int .i64 0, .int .i64 0], .int .i64 2]) ∧ Below w.heap.size w w' := by
  rcases h with h | h
  · go_enter Try.func8, Try.ntmps8
    go_wp2
    exact bodyPost_ret (v := .tuple #[.agg #[.slice none 0 0, .slice none 0 0, .bool false, .int .i64 0, .int .i64 0, .int .i64 0], .int .i64 2]) (by simp [results, Try.results8, go_sem]) rfl ⟨rfl, (Below.refl _ _).alloc (Nat.le_refl _) _⟩
  · have h1 : ¬ n < 1 := by omega
    go_enter Try.func8, Try.ntmps8
    go_wp2
    exact bodyPost_ret (v := .tuple #[.agg #[.slice none 0 0, .slice none 0 0, .bool false, .int .i64 0, .int .i64 0, .int .i64 0], .int .i64 2]) (by simp [results, Try.results8, go_sem]) rfl ⟨rfl, (Below.refl _ _).alloc (Nat.le_refl _) _⟩

theorem info39 : (Try.prog.info? 39).map (fun i => (i.zero, i.size, i.bytes)) = some (some (blk nought), 64, 64) := by kernel_rfl
theorem make_blks (n : Nat) (hn : n ≤ 2048) (u : World) : (Instr.makeSlice 28 (.int .i64 (n : Int)) (.int .i64 (n : Int))).run Try.prog u =
    .ok (.slice (some ⟨u.heap.size, 0, none⟩) n n) (u.alloc (.cells (madeCells (bv nought).toArray (n * 64)) 39)) := by
  obtain ⟨i0, hi, hz0, hz1, hz2⟩ := info_parts info39
  have h := run_make (P := Try.prog) u 28 39 i0 (blk nought) Try.underlying28 hi hz0 .i64 .i64 (n : Int) (n : Int) (by omega) (Int.le_refl _) (by rw [hz2]; omega) (by omega)
  rw [hz1, Int.toNat_natCast] at h
  exact h
theorem made_rep (z : Value) (k m : Nat) (hk : 0 < k) : madeCells (List.replicate k z).toArray m = (List.replicate m z).toArray := by
  apply Array.ext
  · simp [madeCells]
  · intro i h1 h2
    have hlt : i % k < k := Nat.mod_lt _ hk
    simp [madeCells, hlt]
theorem made_blks (w : World) (n : Nat) : Blks (w.alloc (.cells (madeCells (bv nought).toArray (n * 64)) 39)) (w.heap.size + 1) (some ⟨w.heap.size, 0, none⟩) (List.replicate n nought) := fun _ => by
  refine ⟨w.heap.size, 0, rfl, by omega, fun i hi => ?_⟩
  have hi' : i < n := by simpa using hi
  have e : (List.replicate n nought).getD i [] = nought := by simp [hi']
  have e2 : bv nought = List.replicate 64 (.int .u8 0) := (bv_zero 64).symm
  rw [e, e2, made_rep _ _ _ (by omega)]
  refine ⟨rfl, Row.range (Row.new w 39 (List.replicate (n * 64) (.int .u8 0))) fun j v hj => ?_⟩
  rw [List.getElem?_replicate] at hj ⊢
  split at hj
  · rw [if_pos (by omega)]; exact hj
  · cases hj

set_option maxHeartbeats 1000000 in
theorem new_good (n : Nat) (w : World) (h1 : 1 ≤ n) (h2 : n ≤ 2048) :
    Calls Try.prog 8 #[.int .i64 (n : Int)] w fun e w' => ∃ g, e = .returned (.tuple #[.agg #[.slice (some ⟨g, 0, none⟩) n n, .slice none 0 0, .bool false, .int .i64 (-1), .int .i64 (-1), .int .i64 0], .int .i64 0]) ∧ w.heap.size ≤ g ∧ Blks w' w'.heap.size (some ⟨g, 0, none⟩) (List.replicate n nought) ∧ Below w.heap.size w w' := by
  have hmk := make_blks n h2
  have a1 : ¬ (n : Int) < 1 := by omega
  have a2 : ¬ (2048 : Int) < (n : Int) := by omega
  go_enter Try.func8, Try.ntmps8
  go_wp2
  refine bodyPost_ret (v := .tuple #[.agg #[.slice (some ⟨w.heap.size + 1, 0, none⟩) n n, .slice none 0 0, .bool false, .int .i64 (-1), .int .i64 (-1), .int .i64 0], .int .i64 0]) (by simp [results, Try.results8, go_sem]) rfl ⟨w.heap.size + 1, rfl, by omega, ?_, ((Below.refl _ _).alloc (Nat.le_refl _) _).alloc (by simp) _⟩
  have h := made_blks (w.alloc (.cells #[.slice (some ⟨w.heap.size + 1, 0, none⟩) n n, .slice none 0 0, .bool false, .int .i64 (-1), .int .i64 (-1), .int .i64 0] 31)) n
  simpa using h
end Go.Proofs.Ytbfpadilcfelbaa.Dsk
