/-
  Encode; the reference's bytes of a record.
-/
import Derived.Test.YtnljhopikjkflaaRec4
namespace Go.Proofs.Ytnljhopikjkflaa.Rec
set_option maxRecDepth 100000
open Go.RowKit Go.Proofs.Ytnljhopikjkflaa.Wd Go.Proofs.Ytnljhopikjkflaa.Oct Go.Proofs.Ytnljhopikjkflaa.Dsk

/-- what Encode answers -/
def Enc (w : World) (r : RM) (e : Ending) (w' : World) : Prop := ∃ v, e = .returned (.tuple #[v, .int .i64 (if okM r then 0 else 150)]) ∧ Own w' w.heap.size v (if okM r then bytesM r else []) ∧ Below w.heap.size w w'

set_option maxHeartbeats 1000000 in
theorem encode_any (r : RM) (s : RS) (B : Nat) (w : World) (h : RecAt w B r s) (hB : B ≤ w.heap.size) : Calls Try.prog 29 #[.agg (rcs r s).toArray] w (Enc w r) := by
  have HA := Lib.hid h
  have HK := Lib.hid (fun (w : World) (h : RecAt w B r s) (hB : B ≤ w.heap.size) => check_any r s B w h hB)
  have HY := Lib.hid (fun (w : World) (h : RecAt w B r s) (hB : B ≤ w.heap.size) (hok : okM r = true) => bytesOf_any r s B w h hB hok)
  clear h
  unfold Enc
  obtain ⟨K, hK⟩ : ∃ K, K = okM r := ⟨_, rfl⟩
  obtain ⟨L, hL⟩ : ∃ L, L = bytesM r := ⟨_, rfl⟩
  simp only [← hK, ← hL] at HK HY ⊢
  clear hK hL
  unfold rcs at *
  obtain ⟨lsn, kind, txn, back, page, slot, old, new, next⟩ := r
  obtain ⟨Ao, no, co, An, nn, cn⟩ := s
  dsimp only at *
  go_enter Try.func29, Try.ntmps29
  go_wp2_with fail
  have hbel0 : Below w.heap.size w (w.alloc (.cells #[.int .u64 (lsn : Int), .int .i64 kind, .int .u64 (txn : Int), .int .u64 (back : Int), .int .i64 page, .int .i64 slot, .slice Ao no co, .slice An nn cn, .int .u64 (next : Int)] 34)) := (Below.refl _ _).alloc (Nat.le_refl _) _
  have hr0 : Row (w.alloc (.cells #[.int .u64 (lsn : Int), .int .i64 kind, .int .u64 (txn : Int), .int .u64 (back : Int), .int .i64 page, .int .i64 slot, .slice Ao no co, .slice An nn cn, .int .u64 (next : Int)] 34)) w.heap.size 34 [.int .u64 (lsn : Int), .int .i64 kind, .int .u64 (txn : Int), .int .u64 (back : Int), .int .i64 page, .int .i64 slot, .slice Ao no co, .slice An nn cn, .int .u64 (next : Int)] := Row.new w _ _
  have hsz0 : w.heap.size + 1 ≤ (w.alloc (.cells #[.int .u64 (lsn : Int), .int .i64 kind, .int .u64 (txn : Int), .int .u64 (back : Int), .int .i64 page, .int .i64 slot, .slice Ao no co, .slice An nn cn, .int .u64 (next : Int)] 34)).heap.size := by simp
  refine (HK.out _ (HA.out.below (hbel0.mono hB)) (by omega)).mono ?_
  rintro e w1 ⟨rfl, hb1⟩
  have hr1 := hr0.below hb1 (by omega)
  have hbel1 := Lib.hid (hbel0.trans (hb1.mono (by omega)))
  have hs1 := hb1.size
  clear hr0 hbel0 hb1
  cases K
  · go_wp2_with fail
    exact bodyPost_ret (v := .tuple #[.slice none 0 0, .int .i64 150]) (by simp [results, Try.results29, go_sem]) rfl ⟨_, rfl, World.ownsRow_nil _ _ _ _, hbel1.out⟩
  · have hr1' := Lib.hid hr1
    have hc0 : w1.cell? ⟨w.heap.size, 0, none⟩ = some (.int .u64 (lsn : Int)) := hr1.cell 0
    have hc1 : w1.cell? ⟨w.heap.size, 1, none⟩ = some (.int .i64 kind) := hr1.cell 1
    have hc2 : w1.cell? ⟨w.heap.size, 2, none⟩ = some (.int .u64 (txn : Int)) := hr1.cell 2
    have hc3 : w1.cell? ⟨w.heap.size, 3, none⟩ = some (.int .u64 (back : Int)) := hr1.cell 3
    have hc4 : w1.cell? ⟨w.heap.size, 4, none⟩ = some (.int .i64 page) := hr1.cell 4
    have hc5 : w1.cell? ⟨w.heap.size, 5, none⟩ = some (.int .i64 slot) := hr1.cell 5
    have hc6 : w1.cell? ⟨w.heap.size, 6, none⟩ = some (.slice Ao no co) := hr1.cell 6
    have hc7 : w1.cell? ⟨w.heap.size, 7, none⟩ = some (.slice An nn cn) := hr1.cell 7
    have hc8 : w1.cell? ⟨w.heap.size, 8, none⟩ = some (.int .u64 (next : Int)) := hr1.cell 8
    clear hr1
    go_wp2_with fail
    refine (HY.out _ (HA.out.below (hbel1.out.mono hB)) (by omega) trivial).mono ?_
    rintro e w2 ⟨v, rfl, ho, hb2⟩
    have HO := Lib.hid ho
    clear ho
    go_wp2
    exact bodyPost_ret (v := .tuple #[v, .int .i64 0]) (by simp [results, Try.results29, go_sem]) rfl ⟨_, rfl, HO.out.mono (by omega), hbel1.out.trans (hb2.mono (by omega))⟩
end Go.Proofs.Ytnljhopikjkflaa.Rec
