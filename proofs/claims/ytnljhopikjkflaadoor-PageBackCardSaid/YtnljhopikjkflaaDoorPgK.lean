/-
  The statements' wakes.
-/
import Derived.Test.YtnljhopikjkflaaDoorPgI
import Derived.Great.BuildSlice
import Derived.Deep.SlicePairs
namespace Go.Proofs.YtnljhopikjkflaaDoor.Pg
set_option maxRecDepth 100000
open Go.RowKit Go.Proofs.YtnljhopikjkflaaDoor.Wd Go.Proofs.YtnljhopikjkflaaDoor.Oct Go.Proofs.YtnljhopikjkflaaDoor.Dsk Go.Proofs.YtnljhopikjkflaaDoor.Rec Go.Proofs.YtnljhopikjkflaaDoor.Sum Go.Proofs.YtnljhopikjkflaaDoor.Sm

def slw : Nat → List UInt8 := fun k => if k = 0 then [7] else []
def sw (b : Nat) : PS := ⟨fun k => if k = 0 then some ⟨b, 0, none⟩ else none, fun k => if k = 0 then 1 else 0, fun k => if k = 0 then 1 else 0⟩
theorem first12 : (pageB 1 2 slw).take 12 = [0, 1, 0, 0, 0, 0, 0, 0, 0, 2, 1, 7] := by decide +kernel
theorem slw_at (w : World) : PgAt (w.alloc (.cells #[.int .u8 7] 5)) (w.heap.size + 1) slw (sw w.heap.size) := fun k hk => by
  match k, hk with
  | 0, _ => exact ⟨rfl, Nat.le_refl _, by show 1 ≤ maxLen; unfold maxLen; omega, (fun hh => by cases hh), lit_bs w [7] 5⟩
  | 1, _ => exact Sl.nil_ _ _
  | 2, _ => exact Sl.nil_ _ _
  | 3, _ => exact Sl.nil_ _ _
theorem slw_len : ∀ k, k < 4 → (slw k).length ≤ 52 := fun k hk => by
  unfold slw
  split <;> simp
theorem lit12 (w : World) : Bs (w.alloc (.cells #[.int .u8 0, .int .u8 1, .int .u8 0, .int .u8 0, .int .u8 0, .int .u8 0, .int .u8 0, .int .u8 0, .int .u8 0, .int .u8 2, .int .u8 1, .int .u8 7] 5)) (w.heap.size + 1) (some ⟨w.heap.size, 0, none⟩) [0, 1, 0, 0, 0, 0, 0, 0, 0, 2, 1, 7] := lit_bs w [0, 1, 0, 0, 0, 0, 0, 0, 0, 2, 1, 7] 5

set_option maxHeartbeats 2000000 in
theorem wakes_any (w : World) : Calls Tryd.prog 4 #[] w fun e w' => e = .returned (.bool true) ∧ Below w.heap.size w w' := by
  obtain ⟨w1, hw1⟩ : ∃ w1, w1 = w.alloc (.cells #[.int .u8 7] 5) := ⟨_, rfl⟩
  have HEN : Hid (Calls Tryd.prog 6 #[.agg #[.int .i64 1, .int .u64 2, .slice (some ⟨w.heap.size, 0, none⟩) 1 1, .slice none 0 0, .slice none 0 0, .slice none 0 0]] w1 (Enc w1 1 2 slw true)) := by
    rw [hw1]
    exact encode_any 1 2 slw (sw w.heap.size) (w.heap.size + 1) _ (slw_at w) (by simp)
  have HB1 : Hid (Below w.heap.size w w1) := by
    rw [hw1]
    exact (Below.refl _ _).alloc (Nat.le_refl _) _
  have HD1 : Hid (∃ S, (∀ k, k < 4 → S k = slw k) ∧ decM 1 (pageB 1 2 slw) = ⟨0, 1, 2, S⟩) := by
    have := decM_back (m := 1) (lsn := 2) (sl := slw) (by omega) (by decide) 1 (by omega)
    rw [if_pos (by decide)] at this
    exact this
  have HD2 : Hid (decM 2 (pageB 1 2 slw) = badP 160) := by
    have := decM_back (m := 1) (lsn := 2) (sl := slw) (by omega) (by decide) 2 (by omega)
    rw [if_neg (by decide)] at this
    exact this
  have HL := Lib.hid (pageB_len (num := 1) (lsn := 2) slw_len)
  have H12 := Lib.hid first12
  unfold Enc at HEN
  rw [show (if true = true then pageB 1 2 slw else []) = pageB 1 2 slw from rfl, show errP true = 0 from rfl] at HEN
  generalize pageB 1 2 slw = PB at HEN HD1 HD2 HL H12
  have HW1 := Lib.hid hw1
  clear hw1
  go_enter Tryd.func4, Tryd.ntmps4
  go_wp2_with fail
  rw [← HW1.out]
  refine HEN.out.mono ?_
  rintro e w2 ⟨v, rfl, ho, hb2⟩
  have HB2 := Lib.hid (HB1.out.trans (hb2.mono HB1.out.size))
  obtain ⟨A, n, c, rfl, hs⟩ := ho.sl
  have HS := Lib.hid hs
  obtain rfl : n = 256 := by have := HS.out.len; have := HL.out; omega
  have hc : 256 ≤ c := HS.out.cap
  clear ho hb2 hs HEN HB1 HW1
  go_wp2_with fail
  refine (bytesEq_any A (some ⟨w2.heap.size, 0, none⟩) 12 c 12 12 (PB.take 12) [0, 1, 0, 0, 0, 0, 0, 0, 0, 2, 1, 7] w2.heap.size (w2.heap.size + 1) _ (by rw [List.length_take, HL.out]; rfl) rfl (Pg.Bs.pre (HS.out.bs.alloc (Nat.le_refl _) _) 12) (lit12 w2)).mono ?_
  rintro e w3 ⟨rfl, rfl⟩
  rw [H12.out]
  obtain ⟨w3, hw3⟩ : ∃ w3, w3 = w2.alloc (.cells #[.int .u8 0, .int .u8 1, .int .u8 0, .int .u8 0, .int .u8 0, .int .u8 0, .int .u8 0, .int .u8 0, .int .u8 0, .int .u8 2, .int .u8 1, .int .u8 7] 5) := ⟨_, rfl⟩
  rw [← hw3]
  have C3 : Hid (Below w2.heap.size w2 w3) := by rw [hw3]; exact (Below.refl _ _).alloc (Nat.le_refl _) _
  clear hw3
  have HS3 := Lib.hid ((HS.out.below C3.out).more C3.out.size)
  have HB3 := Lib.hid (HB2.out.trans (C3.out.mono HB2.out.size))
  clear C3 HS HB2
  rw [show decide (([0, 1, 0, 0, 0, 0, 0, 0, 0, 2, 1, 7] : List UInt8) = [0, 1, 0, 0, 0, 0, 0, 0, 0, 2, 1, 7]) = true from by decide]
  go_wp2_with fail
  refine (decode_any 1 A 256 c PB w3 HL.out (by omega) HS3.out.bs HS3.out.nil).mono ?_
  obtain ⟨S, hS, hD1⟩ := HD1.out
  rw [hD1]
  rintro e w4 ⟨s4, rfl, hpo4, hb4⟩
  have HS4 := Lib.hid ((HS3.out.below hb4).more hb4.size)
  have HB4 := Lib.hid (HB3.out.trans (hb4.mono HB3.out.size))
  have hn0 : s4.n 0 = 1 := by have := (hpo4.at_).lens 0 (by omega); rw [← this]; show (S 0).length = 1; rw [hS 0 (by omega)]; rfl
  have hn1 : s4.n 1 = 0 := by have := (hpo4.at_).lens 1 (by omega); rw [← this]; show (S 1).length = 0; rw [hS 1 (by omega)]; rfl
  have hn2 : s4.n 2 = 0 := by have := (hpo4.at_).lens 2 (by omega); rw [← this]; show (S 2).length = 0; rw [hS 2 (by omega)]; rfl
  have hn3 : s4.n 3 = 0 := by have := (hpo4.at_).lens 3 (by omega); rw [← this]; show (S 3).length = 0; rw [hS 3 (by omega)]; rfl
  have HF : Hid (freeN (okN 1 s4.n) s4.n = 1) := by
    unfold okN freeN
    rw [hn0, hn1, hn2, hn3]
    rfl
  clear hn0 hn1 hn2 hn3 hpo4 hb4 HD1 hD1 hS HS3 HB3
  unfold pcs
  go_upto_region 5 with fail
  have HX := Lib.hid (boxed w4 1 2 s4)
  unfold pcs at HX
  rw [show (((2 : Nat) : Int)) = 2 from rfl] at HX
  have HS5 := Lib.hid ((HS4.out.below HX.out.hb).more HX.out.hb.size)
  have HB5 := Lib.hid (HB4.out.trans (HX.out.hb.mono HB4.out.size))
  generalize w4.alloc (.cells #[.int .i64 1, .int .u64 2, .slice (s4.A 0) (s4.n 0) (s4.c 0), .slice (s4.A 1) (s4.n 1) (s4.c 1), .slice (s4.A 2) (s4.n 2) (s4.c 2), .slice (s4.A 3) (s4.n 3) (s4.c 3)] 26) = w5 at HX HS5 HB5 ⊢
  have HR5 := Lib.hid HX.out.row
  have HP5 : w4.heap.size < w5.heap.size := HX.out.sz
  generalize w4.heap.size = P at HR5 HP5 ⊢
  clear HX HS4 HB4
  go_wp2_with fail
  refine (decode_any 2 A 256 c PB w5 HL.out (by omega) HS5.out.bs HS5.out.nil).mono ?_
  rw [HD2.out]
  rintro e w6 ⟨s6, rfl, hpo6, hb6⟩
  have HR6 := Lib.hid (HR5.out.below hb6 HP5)
  have HB6 := Lib.hid (HB5.out.trans (hb6.mono HB5.out.size))
  have HP6 : P < w6.heap.size := Nat.lt_of_lt_of_le HP5 hb6.size
  clear hpo6 hb6 HR5 HP5 HS5 HB5 HD2
  unfold badP pcs
  go_upto_region 6 with fail
  have HR7 := Lib.hid (HR6.out.alloc (.cells #[.int .i64 0, .int .u64 0, .slice (s6.A 0) (s6.n 0) (s6.c 0), .slice (s6.A 1) (s6.n 1) (s6.c 1), .slice (s6.A 2) (s6.n 2) (s6.c 2), .slice (s6.A 3) (s6.n 3) (s6.c 3)] 26))
  have HB7 := Lib.hid (HB6.out.alloc HB6.out.size (.cells #[.int .i64 0, .int .u64 0, .slice (s6.A 0) (s6.n 0) (s6.c 0), .slice (s6.A 1) (s6.n 1) (s6.c 1), .slice (s6.A 2) (s6.n 2) (s6.c 2), .slice (s6.A 3) (s6.n 3) (s6.c 3)] 26))
  generalize w6.alloc (.cells #[.int .i64 0, .int .u64 0, .slice (s6.A 0) (s6.n 0) (s6.c 0), .slice (s6.A 1) (s6.n 1) (s6.c 1), .slice (s6.A 2) (s6.n 2) (s6.c 2), .slice (s6.A 3) (s6.n 3) (s6.c 3)] 26) = w7 at HR7 HB7 ⊢
  clear HR6 HB6 HP6
  have ha0 : w7.cell? ⟨P, 0, none⟩ = some (.int .i64 1) := HR7.out.cell 0
  have ha1 : w7.cell? ⟨P, 1, none⟩ = some (.int .u64 2) := HR7.out.cell 1
  have ha2 : w7.cell? ⟨P, 2, none⟩ = some (.slice (s4.A 0) (s4.n 0) (s4.c 0)) := HR7.out.cell 2
  have ha3 : w7.cell? ⟨P, 3, none⟩ = some (.slice (s4.A 1) (s4.n 1) (s4.c 1)) := HR7.out.cell 3
  have ha4 : w7.cell? ⟨P, 4, none⟩ = some (.slice (s4.A 2) (s4.n 2) (s4.c 2)) := HR7.out.cell 4
  have ha5 : w7.cell? ⟨P, 5, none⟩ = some (.slice (s4.A 3) (s4.n 3) (s4.c 3)) := HR7.out.cell 5
  have HFR := Lib.hid (free_any 1 2 s4 w7)
  unfold pcs at HFR
  rw [HF.out] at HFR
  go_wp2_with fail
  refine HFR.out.mono ?_
  rintro e w8 ⟨rfl, hb8⟩
  have HB8 := Lib.hid (HB7.out.trans (hb8.mono HB7.out.size))
  clear hb8
  go_wp2
  go_ret
  exact ⟨rfl, HB8.out⟩
end Go.Proofs.YtnljhopikjkflaaDoor.Pg
