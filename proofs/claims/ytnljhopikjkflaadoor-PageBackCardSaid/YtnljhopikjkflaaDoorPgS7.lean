/-
  PageBack: pages and their bytes lead back to one another. No condition beyond the two library tables that its card ties.
-/
import Derived.Test.YtnljhopikjkflaaDoorPgN
import Derived.Test.YtnljhopikjkflaaDoorPgO
import Derived.Test.YtnljhopikjkflaaDoorPgX
import Derived.Test.YtnljhopikjkflaaDoorPgG
import Derived.Test.YtnljhopikjkflaaDoorPgI
import Derived.Test.YtnljhopikjkflaaDoorPgK
import Derived.Test.YtnljhopikjkflaaDoorPgL
import Derived.Test.YtnljhopikjkflaaDoorPgP
import Derived.Test.YtnljhopikjkflaaDoorPgY
import Derived.Test.YtnljhopikjkflaaDoorPgTr
import Derived.Test.YtnljhopikjkflaaDoorCards
import Derived.Test.YtnljhopikjkflaaDoorTie
import Derived.Lay
import Derived.SevenTiedAt
import Derived.Deep.Cut
import Derived.Deep.CutRange
import Derived.Great.BuildSlice
import Derived.Deep.SlicePairs
namespace Go.Proofs.YtnljhopikjkflaaDoor.PgBack
set_option maxRecDepth 100000
open Go.RowKit Go.Proofs.YtnljhopikjkflaaDoor.Wd Go.Proofs.YtnljhopikjkflaaDoor.Oct Go.Proofs.YtnljhopikjkflaaDoor.Dsk Go.Proofs.YtnljhopikjkflaaDoor.Rec Go.Proofs.YtnljhopikjkflaaDoor.Pg Go.ChangeShapes Go.WideShapes Go.ChangeAt

theorem own : ownKnob Tryd.prog.godebug = none := by kernel_rfl
theorem laidOut : laidOutB Tryd.prog = true := by kernel_rfl
theorem same_self (n : Int) (l : Nat) (f : Nat → List UInt8) : sameM n l f n l f = true := by simp [sameM, eq4]
/-- a page in a variable -/
structure Pv (P : Nat) (num : Int) (lsn : Nat) (f : Nat → List UInt8) (s : PS) (W : World) : Prop where
  r : Row W P 26 (pcs num lsn s)
  p : PgAt W W.heap.size f s
theorem Pv.then {P : Nat} {num : Int} {lsn : Nat} {f : Nat → List UInt8} {s : PS} {W W' : World} (h : Pv P num lsn f s W) (hb : Below W.heap.size W W') : Pv P num lsn f s W' :=
  ⟨h.r.below hb h.r.lt, (h.p.below hb).more hb.size⟩
theorem Pv.box {num : Int} {lsn : Nat} {f : Nat → List UInt8} {s : PS} {W : World} {B : Nat} (h : PgAt W B f s) (hB : B ≤ W.heap.size) : Pv W.heap.size num lsn f s (W.alloc (.cells (pcs num lsn s).toArray 26)) := by
  have hx := boxed W num lsn s
  exact ⟨hx.row, ((h.more hB).below hx.hb).more hx.hb.size⟩
theorem at_congr {w : World} {B : Nat} {f g : Nat → List UInt8} {s : PS} (h : PgAt w B f s) (e : ∀ k, k < 4 → f k = g k) : PgAt w B g s := fun k hk => by rw [← e k hk]; exact h k hk
/-- what is left of the first part -/
def JB (w : World) (_t : Value) (W : World) : Prop := Below w.heap.size w W
/-- which pages the bytes are that are none's error -/
theorem dec_ok {number : Int} {l : List UInt8} (h : (decM number l).err = 0) : (decM number l).num = number ∧ okM (decM number l).num (decM number l).sl = true ∧ l.length = 256 ∧ (l.all (· == 0) = true ∨ pageB (decM number l).num (decM number l).lsn (decM number l).sl = l) := by
  unfold decM at h ⊢
  split at h
  · rename_i h32
    rw [if_pos h32]
    split at h
    · rename_i h256
      rw [if_pos h256]
      split at h
      · rename_i hz
        rw [if_pos hz]
        exact ⟨rfl, okM_iff.2 ⟨h32, fun _ _ => by simp [none_]⟩, h256, .inl hz⟩
      · rename_i hz
        rw [if_neg hz]
        split at h
        · rename_i hg
          rw [if_pos hg]
          obtain ⟨g1, g2, g3⟩ := good_parts hg
          exact ⟨g2, g1, h256, .inr g3⟩
        · exact absurd h (by simp [badP])
    · exact absurd h (by simp [badP])
  · exact absurd h (by simp [badP])
theorem sec_of {W : World} {base k : Nat} {v : Value} {bb : List UInt8} (h : W.ownsRow base 53 64 v k (bv bb)) (hk : bb.length = 64 * k) : ∃ A c, v = .slice A k c ∧ SecAt W A k bb ∧ k ≤ c ∧ c ≤ maxLen ∧ (A = none → c = 0) := by
  rcases h.2 with ⟨rfl, rfl⟩ | ⟨g, cap, cur, rfl, hb, hg, hnc, hcm, hs, htk⟩
  · exact ⟨none, 0, rfl, ⟨hk, fun h0 => by omega⟩, Nat.le_refl _, by decide, fun _ => rfl⟩
  · refine ⟨_, cap, rfl, ⟨hk, fun _ => ⟨g, 0, rfl, (Array.getElem?_eq_some_iff.1 hg).1, fun j hj i u hu => ?_⟩⟩, hnc, hcm, by simp⟩
    have hi : i < 64 := by
      have := (List.getElem?_eq_some_iff.1 hu).1
      rw [bv_length, List.length_take] at this
      omega
    have hc := World.ownsRow.cellAt h (j * 64 + i) (by omega)
    rw [show 0 + j * 64 + i = j * 64 + i by omega, hc]
    simp only [bv, List.getElem?_map, List.getElem?_take, List.getElem?_drop] at hu ⊢
    rw [if_pos hi] at hu
    rw [show j * 64 + i = 64 * j + i by omega]
    exact hu

set_option maxHeartbeats 16000000 in
theorem back_walk (x : PX) (A : Option Addr) (n c : Nat) (l : List UInt8) (w : World) (hx : PgOk w x) (hl : Sl w w.heap.size A n c l) (hc : c ≤ 140737488351232) :
    Calls Tryd.prog 3 #[.agg x.cells.toArray, .slice A n c] w fun e w' => e = .returned (.bool true) ∧ Below w.heap.size w w' := by
  have mixed : Tryd.prog.follows .mixedOrders = true := by kernel_rfl
  obtain ⟨num, lsn, f, s⟩ := x
  have HX := Lib.hid hx
  have HLS := Lib.hid hl
  have hnc : n ≤ c := hl.cap
  clear hx hl
  unfold PX.cells
  dsimp only
  go_enter Tryd.func3, Tryd.ntmps3
  go_upto_region 1 with fail
  have HB := Lib.hid (boxed w num lsn s)
  generalize w.alloc (.cells (pcs num lsn s).toArray 26) = w1 at HB ⊢
  go_wp2_with fail
  refine (wakes_any _).mono ?_
  rintro e w2 ⟨rfl, hb2⟩
  have HB2 := Lib.hid (HB.out.then hb2)
  clear hb2 HB
  have HSH := Lib.hid (short_any num lsn f s w.heap.size w2 (HX.out.at_.below HB2.out.hb) HB2.out.hb.size)
  have HRZ : Hid (Row w2 w.heap.size 26 (pcs num lsn s)) := HB2.out.row
  have hul := HX.out.u1
  have HUL : Hid (lsn < 18446744073709551616) := (show _ < _ by simpa [InU64] using hul)
  clear hul
  unfold pcs at HSH
  have ha0 : w2.cell? ⟨w.heap.size, 0, none⟩ = some (.int .i64 num) := HB2.out.row.cell 0
  have ha1 : w2.cell? ⟨w.heap.size, 1, none⟩ = some (.int .u64 (lsn : Int)) := HB2.out.row.cell 1
  have ha2 : w2.cell? ⟨w.heap.size, 2, none⟩ = some (.slice (s.A 0) (s.n 0) (s.c 0)) := HB2.out.row.cell 2
  have ha3 : w2.cell? ⟨w.heap.size, 3, none⟩ = some (.slice (s.A 1) (s.n 1) (s.c 1)) := HB2.out.row.cell 3
  have ha4 : w2.cell? ⟨w.heap.size, 4, none⟩ = some (.slice (s.A 2) (s.n 2) (s.c 2)) := HB2.out.row.cell 4
  have ha5 : w2.cell? ⟨w.heap.size, 5, none⟩ = some (.slice (s.A 3) (s.n 3) (s.c 3)) := HB2.out.row.cell 5
  go_wp2_with fail
  refine HSH.out.mono ?_
  rintro e w3 ⟨s3, rfl, hpo3, hb3⟩
  have HB3 := Lib.hid (HB2.out.then hb3)
  have HPO3 := Lib.hid hpo3
  clear hpo3 hb3 HSH HB2 HRZ
  clear ha0 ha1 ha2 ha3 ha4 ha5
  have HONE : Hid (∀ v ∈ pcs num lsn s3, v.oneCell' = true) := pcs_one
  have HPI : Hid ((Tryd.prog.info? 26).map (·.size) = some (pcs num lsn s3).length) := page_info
  have HLE : Hid ((pcs num lsn s3).length = (pcs num lsn s).length) := (rfl : _ = _)
  go_upto_region 4 with ((with_reducible refine wpList_store_whole (op := ⟨none, _, _, _, _, _⟩) ?_ 26 (.tmp 2) (.tmp 21) ?_ w.heap.size (pcs num lsn s3) ?_ ?_ 26 (pcs num lsn s) HB3.out.row HLE.out HONE.out HPI.out ?_))
  all_goals try (first | rfl | (simp; done))
  intro w4 hr hg
  have HPO4 : Hid (PO w4 w2.heap.size (shortS f) s3) := fun j hj => (HPO3.out j hj).kept hg (own_ne (HPO3.out j hj) HB3.out.row (by decide))
  have HV4 : Hid (Pv w.heap.size num lsn (shortS f) s3 w4) := ⟨hr, HPO4.out.at_⟩
  have HW4 := Lib.hid (HB3.out.hb.grown hg HB3.out.hb.size (fun k hk => by have := Option.some.inj hk; omega))
  have HSL4 := Lib.hid (HLS.out.below HW4.out)
  have HS3L : Hid (∀ k, k < 4 → s3.n k ≤ 140737488355336) := (show ∀ k, _ → _ from fun k hk => by rw [← HV4.out.p.lens k hk]; unfold shortS; rw [List.length_take]; omega)
  clear hr hg HB3 HPO3 HPO4 HX HLE HONE HPI
  have HEN := Lib.hid (encode_any num lsn (shortS f) s3 w4.heap.size w4 HV4.out.p (Nat.le_refl _))
  have HOKM := Lib.hid (okM_eq (num := num) HV4.out.p)
  generalize shortS f = g at HEN HOKM HV4
  obtain ⟨K, hK⟩ : ∃ K, K = okN num s3.n := ⟨_, rfl⟩
  rw [← hK] at HEN HOKM
  have HKN := Lib.hid hK
  clear hK
  unfold Enc pcs at HEN
  have ha0 : w4.cell? ⟨w.heap.size, 0, none⟩ = some (.int .i64 num) := HV4.out.r.cell 0
  have ha1 : w4.cell? ⟨w.heap.size, 1, none⟩ = some (.int .u64 (lsn : Int)) := HV4.out.r.cell 1
  have ha2 : w4.cell? ⟨w.heap.size, 2, none⟩ = some (.slice (s3.A 0) (s3.n 0) (s3.c 0)) := HV4.out.r.cell 2
  have ha3 : w4.cell? ⟨w.heap.size, 3, none⟩ = some (.slice (s3.A 1) (s3.n 1) (s3.c 1)) := HV4.out.r.cell 3
  have ha4 : w4.cell? ⟨w.heap.size, 4, none⟩ = some (.slice (s3.A 2) (s3.n 2) (s3.c 2)) := HV4.out.r.cell 4
  have ha5 : w4.cell? ⟨w.heap.size, 5, none⟩ = some (.slice (s3.A 3) (s3.n 3) (s3.c 3)) := HV4.out.r.cell 5
  go_wp2_with fail
  refine HEN.out.mono ?_
  rintro e w5 ⟨v5, rfl, ho5, hb5⟩
  have HV5 := Lib.hid (HV4.out.then hb5)
  have HW5 := Lib.hid (HW4.out.trans (hb5.mono HW4.out.size))
  have HO5 := Lib.hid ho5
  clear hb5 ho5 HEN HV4 HW4 HSL4
  clear ha0 ha1 ha2 ha3 ha4 ha5
  go_upto_if 28 with fail
  go_cut [6] from 7 to 69 (fun t6 wx => JB w t6 wx)
  case first =>
    cases K
    · rw [show errP false = 160 from rfl]
      go_wp2_with fail
      go_meet
      case rel => exact HW5.out
    rw [show errP true = 0 from rfl]
    have HOK := Lib.hid (show okM num g = true from HOKM.out.symm)
    have HN32 := Lib.hid (okM_iff.1 HOK.out).1
    have HPL := Lib.hid (pageB_len (num := num) (lsn := lsn) (okM_iff.1 HOK.out).2)
    have HSC := Lib.hid (sectors_any num lsn g s3 w5.heap.size w5 HV5.out.p (Nat.le_refl _))
    obtain ⟨m, rfl⟩ := Int.eq_ofNat_of_zero_le HN32.out.1
    obtain ⟨S, hS, hD⟩ : ∃ S, (∀ k, k < 4 → S k = g k) ∧ decM (m : Int) (pageB (m : Int) lsn g) = ⟨0, (m : Int), lsn, S⟩ := by
      have := decM_back HUL.out HOK.out (m : Int) HN32.out
      rwa [if_pos rfl] at this
    have HOV : Hid (Pg.Own w5 w4.heap.size v5 (pageB (m : Int) lsn g)) := HO5.out
    have HSS := Lib.hid hS
    have HDD := Lib.hid hD
    have HSCT : Hid (∀ W, PgAt W W.heap.size g s3 → Calls Tryd.prog 8 #[.agg (pcs (m : Int) lsn s3).toArray] W (Secs W (m : Int) lsn g true)) := (show ∀ W, _ → _ from fun W h => by
      have := sectors_any (m : Int) lsn g s3 W.heap.size W h (Nat.le_refl _)
      rwa [← HKN.out] at this)
    clear hS hD HO5 HSC HOKM HKN HOK
    obtain ⟨PB, hPB⟩ : ∃ PB, PB = pageB (m : Int) lsn g := ⟨_, rfl⟩
    unfold Secs at HSCT
    rw [← hPB] at HPL HOV HDD HSCT
    clear hPB
    obtain ⟨A5, n5, c5, rfl, hl5, hnc5, hcm5, hn5, hb5⟩ := HOV.out.open
    obtain rfl : n5 = 256 := by rw [← hl5]; exact HPL.out
    have HDE := Lib.hid (decode_any (m : Int) A5 256 c5 PB w5 hl5 (by omega) hb5 hn5)
    rw [HDD.out] at HDE
    unfold DecP at HDE
    dsimp only at HDE
    clear hl5 hnc5 hcm5 hn5 hb5
    have ha0 : w5.cell? ⟨w.heap.size, 0, none⟩ = some (.int .i64 (m : Int)) := HV5.out.r.cell 0
    have ha1 : w5.cell? ⟨w.heap.size, 1, none⟩ = some (.int .u64 (lsn : Int)) := HV5.out.r.cell 1
    have ha2 : w5.cell? ⟨w.heap.size, 2, none⟩ = some (.slice (s3.A 0) (s3.n 0) (s3.c 0)) := HV5.out.r.cell 2
    have ha3 : w5.cell? ⟨w.heap.size, 3, none⟩ = some (.slice (s3.A 1) (s3.n 1) (s3.c 1)) := HV5.out.r.cell 3
    have ha4 : w5.cell? ⟨w.heap.size, 4, none⟩ = some (.slice (s3.A 2) (s3.n 2) (s3.c 2)) := HV5.out.r.cell 4
    have ha5 : w5.cell? ⟨w.heap.size, 5, none⟩ = some (.slice (s3.A 3) (s3.n 3) (s3.c 3)) := HV5.out.r.cell 5
    go_wp2_with fail
    refine HDE.out.mono ?_
    rintro e w6 ⟨s6, rfl, hpo6, hb6⟩
    have HV6 := Lib.hid (HV5.out.then hb6)
    have HW6 := Lib.hid (HW5.out.trans (hb6.mono HW5.out.size))
    have HQ6 := Lib.hid (at_congr hpo6.at_ HSS.out)
    clear hpo6 hb6 HDE HV5 HW5 HOV
    clear ha0 ha1 ha2 ha3 ha4 ha5
    unfold pcs
    go_upto_region 7 with fail
    have HU7 : Hid (Pv w6.heap.size (m : Int) lsn g s6 (w6.alloc (.cells (pcs (m : Int) lsn s6).toArray 26))) := Pv.box HQ6.out (Nat.le_refl _)
    have HX7 := Lib.hid (boxed w6 (m : Int) lsn s6)
    unfold pcs at HX7
    have HV7 := Lib.hid (HV6.out.then HX7.out.hb)
    have HW7 := Lib.hid (HW6.out.trans (HX7.out.hb.mono HW6.out.size))
    unfold pcs at HU7
    generalize w6.alloc (.cells #[.int .i64 (m : Int), .int .u64 (lsn : Int), .slice (s6.A 0) (s6.n 0) (s6.c 0), .slice (s6.A 1) (s6.n 1) (s6.c 1), .slice (s6.A 2) (s6.n 2) (s6.c 2), .slice (s6.A 3) (s6.n 3) (s6.c 3)] 26) = w7 at HU7 HX7 HV7 HW7 ⊢
    generalize w6.heap.size = P7 at HU7 ⊢
    clear HX7 HV6 HW6 HQ6
    have HSQ := Lib.hid (HSCT.out w7 HV7.out.p)
    unfold pcs at HSQ
    have ha0 : w7.cell? ⟨w.heap.size, 0, none⟩ = some (.int .i64 (m : Int)) := HV7.out.r.cell 0
    have ha1 : w7.cell? ⟨w.heap.size, 1, none⟩ = some (.int .u64 (lsn : Int)) := HV7.out.r.cell 1
    have ha2 : w7.cell? ⟨w.heap.size, 2, none⟩ = some (.slice (s3.A 0) (s3.n 0) (s3.c 0)) := HV7.out.r.cell 2
    have ha3 : w7.cell? ⟨w.heap.size, 3, none⟩ = some (.slice (s3.A 1) (s3.n 1) (s3.c 1)) := HV7.out.r.cell 3
    have ha4 : w7.cell? ⟨w.heap.size, 4, none⟩ = some (.slice (s3.A 2) (s3.n 2) (s3.c 2)) := HV7.out.r.cell 4
    have ha5 : w7.cell? ⟨w.heap.size, 5, none⟩ = some (.slice (s3.A 3) (s3.n 3) (s3.c 3)) := HV7.out.r.cell 5
    go_wp2_with fail
    refine HSQ.out.mono ?_
    rintro e w8 ⟨v8, rfl, ho8, hb8⟩
    rw [show errP true = 0 from rfl]
    have HV8 := Lib.hid (HV7.out.then hb8)
    have HU8 := Lib.hid (HU7.out.then hb8)
    have HW8 := Lib.hid (HW7.out.trans (hb8.mono HW7.out.size))
    simp only [if_true] at ho8
    obtain ⟨A8, c8, rfl, hsec, hc8a, hc8, hn8⟩ := sec_of ho8 HPL.out
    have HOF := Lib.hid (of_any (m : Int) A8 4 c8 PB w8 hsec hc8a (by omega) hn8)
    rw [show PB.take (64 * min 4 5) = PB from List.take_of_length_le (by have := HPL.out; omega), HDD.out] at HOF
    unfold DecP at HOF
    dsimp only at HOF
    clear ho8 hb8 hsec hn8 HSQ HV7 HU7 HW7 HSCT
    clear ha0 ha1 ha2 ha3 ha4 ha5
    have ha0 : w8.cell? ⟨w.heap.size, 0, none⟩ = some (.int .i64 (m : Int)) := HV8.out.r.cell 0
    have ha1 : w8.cell? ⟨w.heap.size, 1, none⟩ = some (.int .u64 (lsn : Int)) := HV8.out.r.cell 1
    have ha2 : w8.cell? ⟨w.heap.size, 2, none⟩ = some (.slice (s3.A 0) (s3.n 0) (s3.c 0)) := HV8.out.r.cell 2
    have ha3 : w8.cell? ⟨w.heap.size, 3, none⟩ = some (.slice (s3.A 1) (s3.n 1) (s3.c 1)) := HV8.out.r.cell 3
    have ha4 : w8.cell? ⟨w.heap.size, 4, none⟩ = some (.slice (s3.A 2) (s3.n 2) (s3.c 2)) := HV8.out.r.cell 4
    have ha5 : w8.cell? ⟨w.heap.size, 5, none⟩ = some (.slice (s3.A 3) (s3.n 3) (s3.c 3)) := HV8.out.r.cell 5
    go_wp2_with fail
    refine HOF.out.mono ?_
    rintro e w9 ⟨s9, rfl, hpo9, hb9⟩
    have HV9 := Lib.hid (HV8.out.then hb9)
    have HU9 := Lib.hid (HU8.out.then hb9)
    have HW9 := Lib.hid (HW8.out.trans (hb9.mono HW8.out.size))
    have HQ9 := Lib.hid (at_congr hpo9.at_ HSS.out)
    clear hpo9 hb9 HOF HV8 HU8 HW8
    clear ha0 ha1 ha2 ha3 ha4 ha5
    unfold pcs
    go_upto_region 9 with fail
    have HT10 : Hid (Pv w9.heap.size (m : Int) lsn g s9 (w9.alloc (.cells (pcs (m : Int) lsn s9).toArray 26))) := Pv.box HQ9.out (Nat.le_refl _)
    have HX10 := Lib.hid (boxed w9 (m : Int) lsn s9)
    unfold pcs at HX10
    have HV10 := Lib.hid (HV9.out.then HX10.out.hb)
    have HU10 := Lib.hid (HU9.out.then HX10.out.hb)
    have HW10 := Lib.hid (HW9.out.trans (HX10.out.hb.mono HW9.out.size))
    unfold pcs at HT10
    generalize w9.alloc (.cells #[.int .i64 (m : Int), .int .u64 (lsn : Int), .slice (s9.A 0) (s9.n 0) (s9.c 0), .slice (s9.A 1) (s9.n 1) (s9.c 1), .slice (s9.A 2) (s9.n 2) (s9.c 2), .slice (s9.A 3) (s9.n 3) (s9.c 3)] 26) = w10 at HT10 HX10 HV10 HU10 HW10 ⊢
    generalize w9.heap.size = P10 at HT10 ⊢
    clear HX10 HV9 HU9 HW9 HQ9
    have HSM := Lib.hid (psame_any (m : Int) lsn s3 g (m : Int) lsn s6 g w10.heap.size w10 HV10.out.p HU10.out.p (Nat.le_refl _) HS3L.out)
    rw [same_self] at HSM
    unfold pcs at HSM
    have h00 : ((0 : Int) != 0) = false := by decide
    have ha0 : w10.cell? ⟨w.heap.size, 0, none⟩ = some (.int .i64 (m : Int)) := HV10.out.r.cell 0
    have ha1 : w10.cell? ⟨w.heap.size, 1, none⟩ = some (.int .u64 (lsn : Int)) := HV10.out.r.cell 1
    have ha2 : w10.cell? ⟨w.heap.size, 2, none⟩ = some (.slice (s3.A 0) (s3.n 0) (s3.c 0)) := HV10.out.r.cell 2
    have ha3 : w10.cell? ⟨w.heap.size, 3, none⟩ = some (.slice (s3.A 1) (s3.n 1) (s3.c 1)) := HV10.out.r.cell 3
    have ha4 : w10.cell? ⟨w.heap.size, 4, none⟩ = some (.slice (s3.A 2) (s3.n 2) (s3.c 2)) := HV10.out.r.cell 4
    have ha5 : w10.cell? ⟨w.heap.size, 5, none⟩ = some (.slice (s3.A 3) (s3.n 3) (s3.c 3)) := HV10.out.r.cell 5
    have hu0 : w10.cell? ⟨P7, 0, none⟩ = some (.int .i64 (m : Int)) := HU10.out.r.cell 0
    have hu1 : w10.cell? ⟨P7, 1, none⟩ = some (.int .u64 (lsn : Int)) := HU10.out.r.cell 1
    have hu2 : w10.cell? ⟨P7, 2, none⟩ = some (.slice (s6.A 0) (s6.n 0) (s6.c 0)) := HU10.out.r.cell 2
    have hu3 : w10.cell? ⟨P7, 3, none⟩ = some (.slice (s6.A 1) (s6.n 1) (s6.c 1)) := HU10.out.r.cell 3
    have hu4 : w10.cell? ⟨P7, 4, none⟩ = some (.slice (s6.A 2) (s6.n 2) (s6.c 2)) := HU10.out.r.cell 4
    have hu5 : w10.cell? ⟨P7, 5, none⟩ = some (.slice (s6.A 3) (s6.n 3) (s6.c 3)) := HU10.out.r.cell 5
    go_wp2_with fail
    refine HSM.out.mono ?_
    rintro e w11 ⟨rfl, hb11⟩
    have HV11 := Lib.hid (HV10.out.then hb11)
    have HT11 := Lib.hid (HT10.out.then hb11)
    have HW11 := Lib.hid (HW10.out.trans (hb11.mono HW10.out.size))
    clear hb11 HSM HV10 HT10 HU10 HW10
    clear ha0 ha1 ha2 ha3 ha4 ha5
    clear hu0 hu1 hu2 hu3 hu4 hu5
    have HSM := Lib.hid (psame_any (m : Int) lsn s3 g (m : Int) lsn s9 g w11.heap.size w11 HV11.out.p HT11.out.p (Nat.le_refl _) HS3L.out)
    rw [same_self] at HSM
    unfold pcs at HSM
    have ha0 : w11.cell? ⟨w.heap.size, 0, none⟩ = some (.int .i64 (m : Int)) := HV11.out.r.cell 0
    have ha1 : w11.cell? ⟨w.heap.size, 1, none⟩ = some (.int .u64 (lsn : Int)) := HV11.out.r.cell 1
    have ha2 : w11.cell? ⟨w.heap.size, 2, none⟩ = some (.slice (s3.A 0) (s3.n 0) (s3.c 0)) := HV11.out.r.cell 2
    have ha3 : w11.cell? ⟨w.heap.size, 3, none⟩ = some (.slice (s3.A 1) (s3.n 1) (s3.c 1)) := HV11.out.r.cell 3
    have ha4 : w11.cell? ⟨w.heap.size, 4, none⟩ = some (.slice (s3.A 2) (s3.n 2) (s3.c 2)) := HV11.out.r.cell 4
    have ha5 : w11.cell? ⟨w.heap.size, 5, none⟩ = some (.slice (s3.A 3) (s3.n 3) (s3.c 3)) := HV11.out.r.cell 5
    have hu0 : w11.cell? ⟨P10, 0, none⟩ = some (.int .i64 (m : Int)) := HT11.out.r.cell 0
    have hu1 : w11.cell? ⟨P10, 1, none⟩ = some (.int .u64 (lsn : Int)) := HT11.out.r.cell 1
    have hu2 : w11.cell? ⟨P10, 2, none⟩ = some (.slice (s9.A 0) (s9.n 0) (s9.c 0)) := HT11.out.r.cell 2
    have hu3 : w11.cell? ⟨P10, 3, none⟩ = some (.slice (s9.A 1) (s9.n 1) (s9.c 1)) := HT11.out.r.cell 3
    have hu4 : w11.cell? ⟨P10, 4, none⟩ = some (.slice (s9.A 2) (s9.n 2) (s9.c 2)) := HT11.out.r.cell 4
    have hu5 : w11.cell? ⟨P10, 5, none⟩ = some (.slice (s9.A 3) (s9.n 3) (s9.c 3)) := HT11.out.r.cell 5
    go_wp2_with fail
    refine HSM.out.mono ?_
    rintro e w12 ⟨rfl, hb12⟩
    have HW12 := Lib.hid (HW11.out.trans (hb12.mono HW11.out.size))
    clear hb12 HSM HV11 HT11 HW11
    clear ha0 ha1 ha2 ha3 ha4 ha5
    clear hu0 hu1 hu2 hu3 hu4 hu5
    go_wp2_with fail
    go_meet
    case rel => exact HW12.out
  case rest =>
    have HW : Hid (Below w.heap.size w wc) := hcut
    clear hcut HW5 HV5 HO5 HOKM HKN HS3L HUL
    obtain ⟨m, hme⟩ : ∃ m : Nat, (if 300 < (n : Int) then (300 : Int) else (n : Int)) = (m : Int) := ⟨min 300 n, by split <;> omega⟩
    have hm1 : m = min 300 n := by split at hme <;> omega
    have hm300 : m ≤ 300 := by omega
    have hmn : (m : Int) ≤ (n : Int) := by omega
    have hmc : (m : Int) ≤ (c : Int) := by omega
    have HSB : Hid (Sl w w.heap.size A m c (l.take 300)) := Pg.Sl.pre HLS.out 300 _ hm1
    obtain ⟨b, hb⟩ : ∃ b, b = l.take 300 := ⟨_, rfl⟩
    rw [← hb] at HSB
    clear hb hm1 HLS
    have hmc' : m ≤ c := by omega
    unfold pcs
    go_wp2_with fail
    go_loopw [75] (fun t75 wr => ∃ k : Nat, k ≤ 32 ∧ t75 = .int .i64 (k : Int) ∧ Hid (Below w.heap.size w wr)) (fun t75 _ => 32 - (intOf t75).toNat)
    case atStart => exact ⟨0, by omega, rfl, HW⟩
    case round =>
      obtain ⟨k, hk, rfl, HK⟩ := hrel
      clear HW
      by_cases hlt : k < 32
      case neg =>
        have h1 : ¬ (k : Int) < 32 := by omega
        go_wp2
        go_ret
        exact ⟨rfl, HK.out⟩
      obtain ⟨wk, hwk⟩ : ∃ wk : World, wk = wr := ⟨_, rfl⟩
      rw [← hwk] at HK ⊢
      clear hwk
      have h1 : (k : Int) < 32 := by omega
      have HSK := Lib.hid ((HSB.out.below HK.out).more HK.out.size)
      have HDE := Lib.hid (decode_any (k : Int) A m c b wk HSK.out.len (by omega) HSK.out.bs HSK.out.nil)
      have HDK := Lib.hid (fun h => dec_ok (number := (k : Int)) (l := b) h)
      generalize decM (k : Int) b = D at HDE HDK
      unfold DecP at HDE
      go_wp2_with fail
      refine HDE.out.mono ?_
      rintro e w6 ⟨s6, rfl, hpo6, hb6⟩
      have HW6 := Lib.hid (HK.out.trans (hb6.mono HK.out.size))
      have HQ6 := Lib.hid hpo6.at_
      clear hpo6 hb6 HDE HK HSK
      unfold pcs
      go_upto_region 16 with fail
      have HU7 : Hid (Pv w6.heap.size D.num D.lsn D.sl s6 (w6.alloc (.cells (pcs D.num D.lsn s6).toArray 26))) := Pv.box HQ6.out (Nat.le_refl _)
      have HX7 := Lib.hid (boxed w6 D.num D.lsn s6)
      unfold pcs at HX7
      have HW7 := Lib.hid (HW6.out.trans (HX7.out.hb.mono HW6.out.size))
      unfold pcs at HU7
      generalize w6.alloc (.cells #[.int .i64 D.num, .int .u64 (D.lsn : Int), .slice (s6.A 0) (s6.n 0) (s6.c 0), .slice (s6.A 1) (s6.n 1) (s6.c 1), .slice (s6.A 2) (s6.n 2) (s6.c 2), .slice (s6.A 3) (s6.n 3) (s6.c 3)] 26) = w7 at HU7 HX7 HW7 ⊢
      generalize w6.heap.size = P7 at HU7 ⊢
      clear HX7 HW6 HQ6
      by_cases he : D.err = 0
      case neg =>
        have heb : (D.err != 0) = true := by simp [he]
        clear he
        go_wp2
        go_roundw
        case rel => exact ⟨k + 1, by omega, by go_num, HW7⟩
        case measure => simp [intOf]; omega
      rw [he]
      obtain ⟨hnum, hok, hlen, hway⟩ := HDK.out he
      have HOKN : Hid (okN D.num s6.n = true) := (show _ = _ from (okM_eq HU7.out.p).trans hok)
      have HWAY := Lib.hid hway
      have HM256 : Hid (m = 256) := (show _ = _ by rw [← HSB.out.len]; exact hlen)
      have hmb1 : ((m : Int) == 256) = true := by rw [HM256.out]; rfl
      have hnb : (D.num != (k : Int)) = false := by simp [hnum]
      clear he hnum hok hlen hway HDK
      have HEN := Lib.hid (encode_any D.num D.lsn D.sl s6 w7.heap.size w7 HU7.out.p (Nat.le_refl _))
      rw [HOKN.out] at HEN
      unfold Enc pcs at HEN
      have ha0 : w7.cell? ⟨P7, 0, none⟩ = some (.int .i64 D.num) := HU7.out.r.cell 0
      have ha1 : w7.cell? ⟨P7, 1, none⟩ = some (.int .u64 (D.lsn : Int)) := HU7.out.r.cell 1
      have ha2 : w7.cell? ⟨P7, 2, none⟩ = some (.slice (s6.A 0) (s6.n 0) (s6.c 0)) := HU7.out.r.cell 2
      have ha3 : w7.cell? ⟨P7, 3, none⟩ = some (.slice (s6.A 1) (s6.n 1) (s6.c 1)) := HU7.out.r.cell 3
      have ha4 : w7.cell? ⟨P7, 4, none⟩ = some (.slice (s6.A 2) (s6.n 2) (s6.c 2)) := HU7.out.r.cell 4
      have ha5 : w7.cell? ⟨P7, 5, none⟩ = some (.slice (s6.A 3) (s6.n 3) (s6.c 3)) := HU7.out.r.cell 5
      have h00 : ((0 : Int) != 0) = false := by decide
      go_wp2_with fail
      refine HEN.out.mono ?_
      rintro e w8 ⟨v8, rfl, ho8, hb8⟩
      rw [show errP true = 0 from rfl]
      have HU8 := Lib.hid (HU7.out.then hb8)
      have HW8 := Lib.hid (HW7.out.trans (hb8.mono HW7.out.size))
      have HSB8 := Lib.hid ((HSB.out.below HW8.out).more HW8.out.size)
      have HO8 : Hid (Pg.Own w8 w7.heap.size v8 (pageB D.num D.lsn D.sl)) := (show Pg.Own _ _ _ _ by simpa using ho8)
      clear hb8 ho8 HEN HU7 HW7
      clear ha0 ha1 ha2 ha3 ha4 ha5
      have HTR := Lib.hid (trim_any A m c b w8.heap.size w8 HSB8.out.len (by rw [HM256.out]; omega) hmc' hc HSB8.out.bs)
      unfold TrimB at HTR
      obtain ⟨A9, n9, c9, rfl, hl9, -, -, -, hb9⟩ := HO8.out.open
      have HL9 := Lib.hid hl9
      clear hl9 hb9
      go_wp2_with fail
      refine HTR.out.mono ?_
      rintro e w9 ⟨A', m', c', rfl, hm', hst⟩
      have hb9 : Below w8.heap.size w8 w9 := below_still (Below.refl _ _) hst
      have HU9 := Lib.hid (HU8.out.then hb9)
      have HW9 := Lib.hid (HW8.out.trans (hb9.mono HW8.out.size))
      have HSB9 := Lib.hid ((HSB8.out.below hb9).more hb9.size)
      have HO9 := Lib.hid (HO8.out.below hb9)
      have HM := Lib.hid hm'
      clear hb9 hst hm' HTR HU8 HW8 HSB8 HO8
      have hq0 : w9.cell? ⟨P7, 0, none⟩ = some (.int .i64 D.num) := HU9.out.r.cell 0
      by_cases hm0 : m' = 0
      · have hmb : ((m' : Int) == 0) = true := by simp [hm0]
        clear hm0
        go_wp2
        go_roundw
        case rel => exact ⟨k + 1, by omega, by go_num, HW9⟩
        case measure => simp [intOf]; omega
      have hmb : ((m' : Int) == 0) = false := by simp; omega
      have HPB : Hid (pageB D.num D.lsn D.sl = b) := by
        rcases HWAY.out with hz | hp
        · exact absurd (HM.out hz) hm0
        · exact hp
      obtain ⟨Az, nz, cz, hez, hlz, -, -, -, hbz⟩ := HO9.out.open
      cases hez
      have HEQ := Lib.hid ((bytesEq_any A9 A n9 c9 m c (pageB D.num D.lsn D.sl) b w9.heap.size w9.heap.size w9 hlz HSB9.out.len hbz HSB9.out.bs).mono (fun e w' h => (⟨by rw [h.1, HPB.out]; simp, h.2⟩ : e = .returned (.bool true) ∧ w9 = w')))
      clear hm0 hlz hbz
      go_wp2_with fail
      refine HEQ.out.mono ?_
      rintro e w10 ⟨rfl, rfl⟩
      clear HEQ
      go_wp2
      go_roundw
      case rel => exact ⟨k + 1, by omega, by go_num, HW9⟩
      case measure => simp [intOf]; omega

theorem resT_PageBack : Tryd.f3.resultTypes = #[4] := by kernel_rfl
theorem lawRead_PageBack : ∀ t ∈ Tryd.f3.params.toList, Tryd.prog.readableRec t = true ∧ t < Tryd.prog.types.size := by
  have hr : ∀ t ∈ ([26, 23] : List TypeId), Tryd.prog.readableRec t = true ∧ t < Tryd.prog.types.size := by
    intro t ht
    simp only [List.mem_cons, List.not_mem_nil, or_false] at ht
    rcases ht with rfl | rfl <;> exact ⟨by kernel_rfl, of_decide_eq_true (by kernel_rfl)⟩
  intro t ht
  exact hr t (by
    have ht' : t ∈ Tryd.f3.params.toList := ht
    rw [Tryd.params3] at ht'
    exact ht')
set_option maxRecDepth 100000 in
theorem lifted_PageBack (os : Os) (started : os.Started) (H : Type) (enc : TypeId × Value → H) :
    ReturnsInHanded {} Tryd.checked os 3 .any (fun w args => (Rows.pageBackSpec.pre enc Tryd.prog Tryd.f3 [] false w args ∧ laidMetH Tryd.prog Rows.pageBackRow.laid w) ∧ sizedMet enc Tryd.prog Tryd.f3 (OpenSpec.ofChange Rows.pageBackSpec) false w args)
      (Rows.pageBackSpec.post enc Tryd.prog Tryd.f3 false true false false) := by
  refine returnsInHanded_of_change_and (C := Tryd.checked) (X := fun w _ => laidMetH Tryd.prog Rows.pageBackRow.laid w) (fun _ _ _ hh h => h.of_heap hh) own started (by kernel_rfl) Tryd.func3
    (ChangeSpec.witness_shaped (enc := enc) (C := Tryd.checked) (os := os) (X := fun w _ => laidMetH Tryd.prog Rows.pageBackRow.laid w) false (World.laidAll Tryd.prog os Rows.pageBackRow.laid) #[.agg #[.int .i64 0, .int .u64 0, .slice none 0 0, .slice none 0 0, .slice none 0 0, .slice none 0 0], .slice none 0 0] 8 (World.laidAll_os _ _ _)
      (World.shaped_of_ZipB (by kernel_rfl) (by kernel_rfl)) (by kernel_rfl) (by kernel_rfl) (by kernel_rfl)
      (by rw [MakeChecks.laidMetH_plain _ _ _ (by kernel_rfl)]; exact laidMet_laidAll _ (by kernel_rfl) (by kernel_rfl))) ?_
  intro W base args ds gs before hval0 hW _ hsz1 _ _
  have hval : ∀ (j : Nat) t v, Tryd.f3.params[j]? = some t → args[j]? = some v → Value.okWide Tryd.prog W .any base t v := hval0
  have hW' := hW
  obtain ⟨p, q, hA0, hV, rfl, _, _⟩ := hW
  have hA : DataW.TrodAll enc Tryd.prog W 0 (fun _ => true) true Tryd.f3.params.toList args.toList ds p := hA0
  obtain ⟨rfl, rfl⟩ := trodVars_none hV
  have hsz : (DataW.weightsEach Tryd.prog Tryd.f3.params.toList ds).all (· ≤ reachBytes) = true := by
    have e : Rows.pageBackSpec.plain.varTypes Tryd.checked.prog = [] := rfl
    rw [e, List.append_nil, List.append_nil] at hsz1
    exact hsz1
  have hfin : Rows.pageBackSpec.fn H ds = { results := [.lit (.bool true)], args := ds } ∧ Calls Tryd.prog 3 args W (fun e W' => e = .returned (.bool true) ∧ Below W.heap.size W W') := by
    clear hsz1 hval0 hA0 hW' hV
    rw [Tryd.params3] at hA hval hsz
    obtain ⟨v0, vs0, d0, ds0, p0, q0, hargs, rfl, rfl, h0, r0⟩ := trodAll_cons hA
    obtain ⟨v1, vs1, d1, ds1, p1, q1, rfl, rfl, rfl, h1, r1⟩ := trodAll_cons r0
    obtain ⟨rfl, rfl, rfl⟩ := trodAll_nil r1
    obtain rfl : args = #[v0, v1] := by cases args; simp_all
    obtain ⟨cs0, rfl, _⟩ := okWide_struct Tryd.underlying26 (hval 0 26 v0 rfl rfl)
    obtain ⟨fuel0, hf0⟩ := h0
    obtain ⟨o0, hcs0, hok0⟩ := open_page hf0 (by rw [List.all_eq_true] at hsz ⊢; intro z hz; exact hsz z (DataW.weights_mem_each (j := 0) (t := 26) (d := d0) rfl rfl z hz))
    have hv0 : Value.agg cs0 = .agg o0.cells.toArray := by
      have : cs0.toList = o0.cells := by simpa [Value.cells] using hcs0
      rw [← this]
    rw [hv0]
    obtain ⟨A1, len1, cap1, l1, rfl, hl1, hlc1, hcm1, hn1, hb1, hd1⟩ := Lift.open_bytes Tryd.underlying23 Tryd.underlying5 (by kernel_rfl) (hval 1 23 v1 rfl rfl) h1
    have hc1 : cap1 ≤ 140737488351232 := Lift.bytes_reach bytes_u8 hsz (j := 1) rfl rfl Tryd.underlying23 hd1
    exact ⟨rfl, back_walk o0 A1 len1 cap1 l1 W hok0 ⟨hl1, hlc1, hcm1, hn1, hb1⟩ hc1⟩
  refine hfin.2.mono fun e W' ⟨he, bel⟩ => ⟨_, he, Lift.law_post laidOut rfl resT_PageBack Tryd.underlying4 lawRead_PageBack hW' ?_ bel⟩
  rw [List.append_nil]
  exact hfin.1

theorem row_PageBack : Rows.pageBackRow.holds Tryd.pinned (OpenSpec.ofChange Rows.pageBackSpec) :=
  OpenClaim.holds_of_wide 3 Tryd.f3 rfl rfl rfl rfl rfl rfl rfl ⟨rfl, rfl, rfl, rfl, rfl⟩ rfl rfl rfl rfl rfl (by kernel_rfl) Tryd.func3 (by kernel_rfl)
    (of_decide_eq_true (by kernel_rfl)) (by unfold Func.isWrapper; first | (rw [if_pos (by decide +kernel)]; kernel_rfl) | (rw [if_neg (by decide +kernel)]; exact ⟨rfl, rfl⟩))
    (fun os started H enc _ => lifted_PageBack os started H enc)
theorem proved_PageBack : Rows.PageBackCardSaid :=
  Claim7.holds_tied_plain_at .later [] [.data, .pinned] true (true, "f3bd8289428d08b2f2be4cf41119dbc7f0f79253af14242152eb3aef39179ba4") false
    row_PageBack (fun _ h => by cases h) (by kernel_rfl) (fun _ h => by cases h) pageBack_row_tie rfl ⟨rfl, rfl⟩ (by kernel_rfl) rfl
    (fun f fn hf hfn => by
      obtain rfl : f = 3 := Option.some.inj ((show Tryd.prog.funcNamed "gazetteer/gazetteerlaw06.PageBack" = some 3 by kernel_rfl).symm.trans hf) |>.symm
      obtain rfl : fn = Tryd.f3 := (Option.some.inj (Tryd.func3.symm.trans hfn)).symm
      exact ⟨by kernel_rfl, fun j t ht => by
        rw [Tryd.params3] at ht
        have hm : t ∈ [26, 23] := by simpa using Array.mem_of_getElem? ht
        have hall : ([26, 23].all fun u => !Tryd.prog.wantsStandIn u) = true := by kernel_rfl
        exact (show Tryd.prog.wantsStandIn t = false by simpa using List.all_eq_true.1 hall t hm)⟩)
    (by kernel_rfl)
end Go.Proofs.YtnljhopikjkflaaDoor.PgBack
