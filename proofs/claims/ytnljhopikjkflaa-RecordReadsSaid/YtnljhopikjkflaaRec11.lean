/-
  The layer does something.
-/
import Derived.Test.YtnljhopikjkflaaRecP
namespace Go.Proofs.Ytnljhopikjkflaa.Rec
set_option maxRecDepth 100000
open Go.RowKit Go.Proofs.Ytnljhopikjkflaa.Wd Go.Proofs.Ytnljhopikjkflaa.Oct

def r7 : RM := ⟨1, 1, 1, 0, 2, 3, [], [7], 0⟩
theorem r7_ok : okM r7 = true := by decide
theorem r7_len : (bytesM r7).length = 30 := by decide
theorem r7_last : (bytesM r7).getD 29 0 = 7 := by decide
theorem r7_back : recM (bytesM r7) 0 = (0, r7, (30, 0)) := by
  have := recM_back r7 [] r7_ok (by show (1:Nat) < _; omega) (by show (1:Nat) < _; omega) (by show (0:Nat) < _; omega) (by show (0:Nat) < _; omega)
  rw [List.append_nil, r7_len] at this
  exact this

set_option maxHeartbeats 100000 in
theorem wakes_any (w : World) : Calls Try.prog 7 #[] w fun e w' => e = .returned (.bool true) ∧ Below w.heap.size w w' := by
  go_enter Try.func7, Try.ntmps7
  go_wp2_with fail
  have hb0 : Below w.heap.size w (w.alloc (.cells #[.int .u8 7] 5)) := (Below.refl _ _).alloc (Nat.le_refl _) _
  have hs0 : (w.alloc (.cells #[.int .u8 7] 5)).heap.size = w.heap.size + 1 := by simp
  have hrec : RecAt (w.alloc (.cells #[.int .u8 7] 5)) (w.heap.size + 1) r7 ⟨none, 0, 0, some ⟨w.heap.size, 0, none⟩, 1, 1⟩ := ⟨rfl, rfl, by show 0 ≤ _; omega, by show 1 ≤ _; omega, Bs.nil _ _ _, lit_bs w [7] _, fun _ => rfl, fun h => by cases h⟩
  have hcs : rcs r7 ⟨none, 0, 0, some ⟨w.heap.size, 0, none⟩, 1, 1⟩ = [.int .u64 1, .int .i64 1, .int .u64 1, .int .u64 0, .int .i64 2, .int .i64 3, .slice none 0 0, .slice (some ⟨w.heap.size, 0, none⟩) 1 1, .int .u64 0] := rfl
  have HE := encode_any r7 ⟨none, 0, 0, some ⟨w.heap.size, 0, none⟩, 1, 1⟩ (w.heap.size + 1) _ hrec (by omega)
  rw [hcs] at HE
  have HHE := Lib.hid HE
  clear hrec HE
  refine HHE.out.mono ?_
  rintro e w1 ⟨v, rfl, ho, hb1⟩
  rw [r7_ok] at *
  simp only [if_true] at *
  obtain ⟨A, n, c, rfl, h1, h2, h3, h4, h5⟩ := ho.open
  have hn : n = 30 := by rw [← h1]; exact r7_len
  subst hn
  obtain ⟨b, o, rfl, hlt, hc⟩ := h5 (by rw [r7_len]; omega)
  have hc29 : w1.cell? ⟨b, o + 29, none⟩ = some (.int .u8 7) := by
    have := hc 29 (by rw [r7_len]; omega)
    rw [r7_last] at this
    exact this
  have HB1 := Lib.hid (hb0.trans (hb1.mono (by omega)))
  have HBS := Lib.hid h5
  have HLEN := Lib.hid h1
  clear hb0 hb1 hs0 ho h1 h4 h5 hc HHE
  go_wp2_with fail
  have HD := decode_any (some ⟨b, o, none⟩) (bytesM r7) 30 c w1 HLEN.out (by omega) w1.heap.size HBS.out (Nat.le_refl _) (fun h => by cases h)
  rw [r7_back] at HD
  have HHD := Lib.hid HD
  clear HD
  refine HHD.out.mono ?_
  rintro e w2 ⟨s, rfl, hrec, hb2⟩
  have hc2 : w2.cell? ⟨b, o + 29, none⟩ = some (.int .u8 7) := (hb2.cell (p := ⟨b, o + 29, none⟩) hlt).trans hc29
  have HB2 := Lib.hid (HB1.out.trans (hb2.mono HB1.out.size))
  have hlt2 : b < w2.heap.size := Nat.lt_of_lt_of_le hlt hb2.size
  simp only [if_true, rcs, r7]
  clear hrec hb2 hc29 HHD
  go_wp2
  go_ret
  refine ⟨rfl, ?_⟩
  exact HB2.out.alloc HB2.out.size _
end Go.Proofs.Ytnljhopikjkflaa.Rec
