/-
  The reference's Decode.
-/
import Derived.Test.YtnljhopikjkflaaRecQ
import Derived.Test.YtnljhopikjkflaaOct7
namespace Go.Proofs.Ytnljhopikjkflaa.Rec
set_option maxRecDepth 100000
open Go.RowKit Go.Proofs.Ytnljhopikjkflaa.Wd Go.Proofs.Ytnljhopikjkflaa.Oct Go.Proofs.Ytnljhopikjkflaa.Dsk

/-- the reference's Decode under way: its result's cells and its record's, the bytes -/
structure Dc (w : World) (A : Option Addr) (l : List UInt8) (cs : List Value) (W : World) : Prop where
  r2 : Row W w.heap.size 34 (rcs zeroR zeroS)
  r5 : Row W (w.heap.size + 1) 34 cs
  hb : Below w.heap.size w W
  bs : Bs W w.heap.size A l
  hs : w.heap.size + 2 ≤ W.heap.size
section
variable {w W W' : World} {A : Option Addr} {l : List UInt8} {cs : List Value}
theorem Dc.still (h : Dc w A l cs W) (hs : Still W W') : Dc w A l cs W' := by
  obtain ⟨n, rfl⟩ := hs
  exact ⟨h.r2.drewN n, h.r5.drewN n, below_still h.hb ⟨n, rfl⟩, h.bs.drewN n, h.hs⟩
theorem Dc.drew (h : Dc w A l cs W) : Dc w A l cs W.drew := ⟨h.r2.drew, h.r5.drew, ⟨h.hb.os, h.hb.tape, h.hb.output, h.hb.size, h.hb.block⟩, h.bs.drew, h.hs⟩
theorem Dc.set (h : Dc w A l cs W) (i : Nat) (v : Value) : Dc w A l (cs.set i v) (W.setCell ⟨w.heap.size + 1, i, none⟩ v) :=
  ⟨Row.far h.r2 (p := ⟨w.heap.size + 1, i, none⟩) (by show w.heap.size ≠ w.heap.size + 1; omega) v, Row.store h.r5 i v, h.hb.setCell (p := ⟨w.heap.size + 1, i, none⟩) (Nat.le_succ _) v,
    (h.bs.below (h.hb.mono (Nat.le_refl _) |> fun _ => (Below.refl w.heap.size W).setCell (p := ⟨w.heap.size + 1, i, none⟩) (Nat.le_succ _) v)), by have := h.hs; simpa [World.setCell] using this⟩
theorem Dc.cut {b o : Nat} (h : Dc w (some ⟨b, o, none⟩) l cs W) (k n : Nat) (hk : k + n ≤ l.length) : Bs W w.heap.size (some ⟨b, o + k, none⟩) (sl l k n) := by
  have := h.bs.cut k n hk
  simpa [Addr.add_lit, sl] using this
/-- a byte's cell -/
theorem Dc.byte {b o : Nat} (h : Dc w (some ⟨b, o, none⟩) l cs W) (i : Nat) (hi : i < l.length) : W.cell? ⟨b, o + i, none⟩ = some (.int .u8 (by_ l i : Int)) := by
  obtain ⟨b', o', e, _, hc⟩ := h.bs (by omega)
  cases e
  exact hc i hi
end

theorem by_lt (l : List UInt8) (i : Nat) : by_ l i < 256 := (l.getD i 0).toNat_lt
theorem below_grown2 {w W W' : World} (h : Below w.heap.size w W) (hg : W.grownBy W' (some w.heap.size)) : Below w.heap.size w W' :=
  ⟨hg.os.trans h.os, hg.tape.trans h.tape, hg.output.trans h.output, Nat.le_trans h.size hg.size, fun j hj => (hg.block j (Nat.lt_of_lt_of_le hj h.size) (fun e => by have := Option.some.inj e; omega)).trans (h.block j hj)⟩
/-- an answer that is an error -/
theorem dec_err {w W : World} {l : List UInt8} {e : Int} (h : (recM l 0).1 = e) (he : e ≠ 0) (hb : Below w.heap.size w W) : DecOut w (recM l 0) (.returned (.tuple #[.agg (rcs zeroR zeroS).toArray, .int .i64 0, .int .i64 e])) W := by
  have h2 := recM_zero l 0 (by rw [h]; exact he)
  refine ⟨zeroS, ?_, ?_, hb⟩
  · rw [h, h2, if_neg he]
  · rw [h2]
    exact RecAt.zero W

theorem recM_s25 (l : List UInt8) (h : 0 < l.length) (hk : 1 ≤ by_ l 0 ∧ by_ l 0 ≤ 4) (h2 : l.length < 25) : (recM l 0).1 = 7 := by
  have hC : countedM (by_ l 0 : Int) ≠ 0 := fun hh => by have := (counted_nought _).1 hh; omega
  exact recM_short l _ _ _ _ _ h rfl hC rfl rfl rfl rfl (short25 l h2 _ _ _ _)

theorem sl_len (l : List UInt8) (i n : Nat) (h : i + n ≤ l.length) : (sl l i n).length = n := by
  simp [sl]
  omega

theorem recM_34 (l : List UInt8) (hk : 3 ≤ by_ l 0 ∧ by_ l 0 ≤ 4) (h : 25 ≤ l.length) : recM l 0 = if okM ⟨n8 l 1, (by_ l 0 : Int), n8 l 9, n8 l 17, 0, 0, [], [], 0⟩ = true then (0, ⟨n8 l 1, (by_ l 0 : Int), n8 l 9, n8 l 17, 0, 0, [], [], 0⟩, (25, 0)) else (150, zeroR, (25, 0)) := by
  have hC : countedM (by_ l 0 : Int) = 1 := by
    unfold countedM
    rw [if_neg (by omega), if_neg (by omega), if_pos (by omega)]
  exact recM_whole l 1 false false false false _ 25 (by omega) hC (by decide) (by decide) (by decide) (by decide) (by decide) (no_more l h)

theorem recM_s28 (l : List UInt8) (hk : 1 ≤ by_ l 0 ∧ by_ l 0 ≤ 2) (h : 25 ≤ l.length) (h2 : l.length < 28) : (recM l 0).1 = 7 := by
  have hk2 : by_ l 0 = 1 ∨ by_ l 0 = 2 := by omega
  rcases hk2 with hk | hk
  · exact recM_short l 15 true true true false (by omega) (by rw [hk]; rfl) (by decide) (by decide) (by decide) (by decide) (by decide) (short28 l h h2 _ _)
  · exact recM_short l 27 true false true true (by omega) (by rw [hk]; rfl) (by decide) (by decide) (by decide) (by decide) (by decide) (short28 l h h2 _ _)

theorem whole1 (l : List UInt8) (hk : by_ l 0 = 1) (h : 29 + by_ l 27 + by_ l (28 + by_ l 27) ≤ l.length) : recM l 0 = if okM ⟨n8 l 1, (by_ l 0 : Int), n8 l 9, n8 l 17, (by_ l 25 : Int), (by_ l 26 : Int), sl l 28 (by_ l 27), sl l (28 + by_ l 27 + 1) (by_ l (28 + by_ l 27)), 0⟩ = true then (0, ⟨n8 l 1, (by_ l 0 : Int), n8 l 9, n8 l 17, (by_ l 25 : Int), (by_ l 26 : Int), sl l 28 (by_ l 27), sl l (28 + by_ l 27 + 1) (by_ l (28 + by_ l 27)), 0⟩, (28 + by_ l 27 + 1 + by_ l (28 + by_ l 27), 0)) else (150, zeroR, (28 + by_ l 27 + 1 + by_ l (28 + by_ l 27), 0)) := by
  have hC : countedM (by_ l 0 : Int) = 15 := by rw [hk]; rfl
  have hF := one_whole l h
  rw [show 29 + by_ l 27 + by_ l (28 + by_ l 27) = 28 + by_ l 27 + 1 + by_ l (28 + by_ l 27) from by omega, show 29 + by_ l 27 = 28 + by_ l 27 + 1 from by omega] at hF
  exact recM_whole l 15 true true true false _ _ (by omega) hC (by decide) (by decide) (by decide) (by decide) (by decide) hF

theorem whole2 (l : List UInt8) (hk : by_ l 0 = 2) (h : 36 + by_ l 27 ≤ l.length) : recM l 0 = if okM ⟨n8 l 1, (by_ l 0 : Int), n8 l 9, n8 l 17, (by_ l 25 : Int), (by_ l 26 : Int), [], sl l 28 (by_ l 27), n8 l (28 + by_ l 27)⟩ = true then (0, ⟨n8 l 1, (by_ l 0 : Int), n8 l 9, n8 l 17, (by_ l 25 : Int), (by_ l 26 : Int), [], sl l 28 (by_ l 27), n8 l (28 + by_ l 27)⟩, (28 + by_ l 27 + 8, 0)) else (150, zeroR, (28 + by_ l 27 + 8, 0)) := by
  have hC : countedM (by_ l 0 : Int) = 27 := by rw [hk]; rfl
  have hF := two_whole l h
  rw [show 36 + by_ l 27 = 28 + by_ l 27 + 8 from by omega] at hF
  exact recM_whole l 27 true false true true _ _ (by omega) hC (by decide) (by decide) (by decide) (by decide) (by decide) hF

/-- the world behind the result's own variable -/
structure Dz (w W : World) : Prop where
  r2 : Row W w.heap.size 34 (rcs zeroR zeroS)
  hb : Below w.heap.size w W

set_option maxHeartbeats 4000000 in
theorem dec_kind0 (b o n c : Nat) (l : List UInt8) (w : World) (hl : l.length = n) (hnc : n ≤ c) (hcm : c ≤ 140737488351232) (hb : Bs w w.heap.size (some ⟨b, o, none⟩) l) (hlt : b < w.heap.size) (hn : 0 < n) (hk : by_ l 0 < 1) :
    Calls Try.prog 44 #[.slice (some ⟨b, o, none⟩) n c] w (DecOut w (recM l 0)) := by
  have mixed : Try.prog.follows .mixedOrders = true := by kernel_rfl
  have HL := Lib.hid hl
  have hn0 : ((n : Int) == 0) = false := by simp; omega
  have hnn : 0 < (n : Int) := by omega
  have hc0 : w.cell? ⟨b, o, none⟩ = some (.int .u8 (by_ l 0 : Int)) := by
    obtain ⟨b', o', e, _, hc⟩ := hb (by omega)
    cases e
    have := hc 0 (by omega)
    simpa [by_] using this
  have hk256 : by_ l 0 < 256 := by_lt l 0
  have HZ := Lib.hid (recM_kind l (by omega) (.inl hk))
  have HBS := Lib.hid hb
  clear hl hb
  go_enter Try.func44, Try.ntmps44
  go_upto_region 4 with fail
  have h0 : Dc w (some ⟨b, o, none⟩) l [.int .u64 0, .int .i64 (by_ l 0 : Int), .int .u64 0, .int .u64 0, .int .i64 0, .int .i64 0, .slice none 0 0, .slice none 0 0, .int .u64 0] ((w.alloc (.cells #[.int .u64 0, .int .i64 0, .int .u64 0, .int .u64 0, .int .i64 0, .int .i64 0, .slice none 0 0, .slice none 0 0, .int .u64 0] 34)).alloc (.cells #[.int .u64 0, .int .i64 (by_ l 0 : Int), .int .u64 0, .int .u64 0, .int .i64 0, .int .i64 0, .slice none 0 0, .slice none 0 0, .int .u64 0] 34)) := ⟨(Row.new w _ _).alloc _, by
    have := Row.new (w.alloc (.cells #[.int .u64 0, .int .i64 0, .int .u64 0, .int .u64 0, .int .i64 0, .int .i64 0, .slice none 0 0, .slice none 0 0, .int .u64 0] 34)) 34 [.int .u64 0, .int .i64 (by_ l 0 : Int), .int .u64 0, .int .u64 0, .int .i64 0, .int .i64 0, .slice none 0 0, .slice none 0 0, .int .u64 0]
    rwa [World.size_alloc] at this, ((Below.refl _ _).alloc (Nat.le_refl _) _).alloc (by simp) _, (HBS.out.alloc (Nat.le_refl _) _).alloc (by simp) _, by simp⟩
  clear HBS
  generalize (w.alloc (.cells #[.int .u64 0, .int .i64 0, .int .u64 0, .int .u64 0, .int .i64 0, .int .i64 0, .slice none 0 0, .slice none 0 0, .int .u64 0] 34)).alloc (.cells #[.int .u64 0, .int .i64 (by_ l 0 : Int), .int .u64 0, .int .u64 0, .int .i64 0, .int .i64 0, .slice none 0 0, .slice none 0 0, .int .u64 0] 34) = w1 at *
  have H1 := Lib.hid h0
  clear h0 hc0
  have hx1 : w1.cell? ⟨w.heap.size + 1, 1, none⟩ = some (.int .i64 (by_ l 0 : Int)) := H1.out.r5.cell 1
  have hd1 : decide ((by_ l 0 : Int) < 1) = true := by simp; omega

  have HI := Lib.hid (show (Try.prog.info? 34).map (·.size) = some (rcs zeroR zeroS).length from rec_info)
  have HLE := Lib.hid (show (rcs zeroR zeroS).length = (rcs zeroR zeroS).length from rfl)
  have HONE : Hid (∀ v ∈ (rcs zeroR zeroS), v.oneCell' = true) := rcs_one
  have HR2 := Lib.hid H1.out.r2
  go_wp2_with (with_reducible refine wpList_store_whole (op := ⟨none, _, _, _, _, _⟩) ?_ 34 (.tmp 2) (.tmp 26) ?_ w.heap.size (rcs zeroR zeroS) ?_ ?_ 34 (rcs zeroR zeroS) HR2.out HLE.out HONE.out HI.out ?_)
  all_goals try (first | rfl | (simp; done))
  intro w8 hr8 hg8
  have HRES := Lib.hid (run_loadVar_mid (P := Try.prog) w8 w.heap.size 0 34 (rcs zeroR zeroS) _ (Row.all hr8) Try.underlying34 rfl HI.out)
  have HB8 := Lib.hid (below_grown2 H1.out.hb hg8)
  clear hr8 hg8
  go_wp2
  refine bodyPost_ret (v := .tuple #[.agg (rcs zeroR zeroS).toArray, .int .i64 0, .int .i64 150]) (res_cell_tmp2 (p := 2) (q := 3) (q2 := 4) (ty := 34) rfl _ _ ⟨w.heap.size, 0, none⟩ _ _ _ rfl HRES.out rfl rfl) rfl ?_
  exact dec_err HZ.out (by decide) HB8.out


set_option maxHeartbeats 4000000 in
theorem dec_kind4 (b o n c : Nat) (l : List UInt8) (w : World) (hl : l.length = n) (hnc : n ≤ c) (hcm : c ≤ 140737488351232) (hb : Bs w w.heap.size (some ⟨b, o, none⟩) l) (hlt : b < w.heap.size) (hn : 0 < n) (hk : 4 < by_ l 0) :
    Calls Try.prog 44 #[.slice (some ⟨b, o, none⟩) n c] w (DecOut w (recM l 0)) := by
  have mixed : Try.prog.follows .mixedOrders = true := by kernel_rfl
  have HL := Lib.hid hl
  have hn0 : ((n : Int) == 0) = false := by simp; omega
  have hnn : 0 < (n : Int) := by omega
  have hc0 : w.cell? ⟨b, o, none⟩ = some (.int .u8 (by_ l 0 : Int)) := by
    obtain ⟨b', o', e, _, hc⟩ := hb (by omega)
    cases e
    have := hc 0 (by omega)
    simpa [by_] using this
  have hk256 : by_ l 0 < 256 := by_lt l 0
  have HZ := Lib.hid (recM_kind l (by omega) (.inr hk))
  have HBS := Lib.hid hb
  clear hl hb
  go_enter Try.func44, Try.ntmps44
  go_upto_region 4 with fail
  have h0 : Dc w (some ⟨b, o, none⟩) l [.int .u64 0, .int .i64 (by_ l 0 : Int), .int .u64 0, .int .u64 0, .int .i64 0, .int .i64 0, .slice none 0 0, .slice none 0 0, .int .u64 0] ((w.alloc (.cells #[.int .u64 0, .int .i64 0, .int .u64 0, .int .u64 0, .int .i64 0, .int .i64 0, .slice none 0 0, .slice none 0 0, .int .u64 0] 34)).alloc (.cells #[.int .u64 0, .int .i64 (by_ l 0 : Int), .int .u64 0, .int .u64 0, .int .i64 0, .int .i64 0, .slice none 0 0, .slice none 0 0, .int .u64 0] 34)) := ⟨(Row.new w _ _).alloc _, by
    have := Row.new (w.alloc (.cells #[.int .u64 0, .int .i64 0, .int .u64 0, .int .u64 0, .int .i64 0, .int .i64 0, .slice none 0 0, .slice none 0 0, .int .u64 0] 34)) 34 [.int .u64 0, .int .i64 (by_ l 0 : Int), .int .u64 0, .int .u64 0, .int .i64 0, .int .i64 0, .slice none 0 0, .slice none 0 0, .int .u64 0]
    rwa [World.size_alloc] at this, ((Below.refl _ _).alloc (Nat.le_refl _) _).alloc (by simp) _, (HBS.out.alloc (Nat.le_refl _) _).alloc (by simp) _, by simp⟩
  clear HBS
  generalize (w.alloc (.cells #[.int .u64 0, .int .i64 0, .int .u64 0, .int .u64 0, .int .i64 0, .int .i64 0, .slice none 0 0, .slice none 0 0, .int .u64 0] 34)).alloc (.cells #[.int .u64 0, .int .i64 (by_ l 0 : Int), .int .u64 0, .int .u64 0, .int .i64 0, .int .i64 0, .slice none 0 0, .slice none 0 0, .int .u64 0] 34) = w1 at *
  have H1 := Lib.hid h0
  clear h0 hc0
  have hx1 : w1.cell? ⟨w.heap.size + 1, 1, none⟩ = some (.int .i64 (by_ l 0 : Int)) := H1.out.r5.cell 1
  have hd1 : decide ((by_ l 0 : Int) < 1) = false := by simp; omega
  have hd2 : decide (4 < (by_ l 0 : Int)) = true := by simp; omega

  have HI := Lib.hid (show (Try.prog.info? 34).map (·.size) = some (rcs zeroR zeroS).length from rec_info)
  have HLE := Lib.hid (show (rcs zeroR zeroS).length = (rcs zeroR zeroS).length from rfl)
  have HONE : Hid (∀ v ∈ (rcs zeroR zeroS), v.oneCell' = true) := rcs_one
  have HR2 := Lib.hid H1.out.r2
  go_wp2_with (with_reducible refine wpList_store_whole (op := ⟨none, _, _, _, _, _⟩) ?_ 34 (.tmp 2) (.tmp 26) ?_ w.heap.size (rcs zeroR zeroS) ?_ ?_ 34 (rcs zeroR zeroS) HR2.out HLE.out HONE.out HI.out ?_)
  all_goals try (first | rfl | (simp; done))
  intro w8 hr8 hg8
  have HRES := Lib.hid (run_loadVar_mid (P := Try.prog) w8 w.heap.size 0 34 (rcs zeroR zeroS) _ (Row.all hr8) Try.underlying34 rfl HI.out)
  have HB8 := Lib.hid (below_grown2 H1.out.hb hg8)
  clear hr8 hg8
  go_wp2
  refine bodyPost_ret (v := .tuple #[.agg (rcs zeroR zeroS).toArray, .int .i64 0, .int .i64 150]) (res_cell_tmp2 (p := 2) (q := 3) (q2 := 4) (ty := 34) rfl _ _ ⟨w.heap.size, 0, none⟩ _ _ _ rfl HRES.out rfl rfl) rfl ?_
  exact dec_err HZ.out (by decide) HB8.out


set_option maxHeartbeats 4000000 in
theorem dec_25 (b o n c : Nat) (l : List UInt8) (w : World) (hl : l.length = n) (hnc : n ≤ c) (hcm : c ≤ 140737488351232) (hb : Bs w w.heap.size (some ⟨b, o, none⟩) l) (hlt : b < w.heap.size) (hn : 0 < n) (hk : 1 ≤ by_ l 0 ∧ by_ l 0 ≤ 4) (h25 : n < 25) :
    Calls Try.prog 44 #[.slice (some ⟨b, o, none⟩) n c] w (DecOut w (recM l 0)) := by
  have mixed : Try.prog.follows .mixedOrders = true := by kernel_rfl
  have HL := Lib.hid hl
  have hn0 : ((n : Int) == 0) = false := by simp; omega
  have hnn : 0 < (n : Int) := by omega
  have hc0 : w.cell? ⟨b, o, none⟩ = some (.int .u8 (by_ l 0 : Int)) := by
    obtain ⟨b', o', e, _, hc⟩ := hb (by omega)
    cases e
    have := hc 0 (by omega)
    simpa [by_] using this
  have hk256 : by_ l 0 < 256 := by_lt l 0
  have HZ := Lib.hid (recM_s25 l (by omega) hk (by omega))
  have HBS := Lib.hid hb
  clear hl hb
  go_enter Try.func44, Try.ntmps44
  go_upto_region 4 with fail
  have h0 : Dc w (some ⟨b, o, none⟩) l [.int .u64 0, .int .i64 (by_ l 0 : Int), .int .u64 0, .int .u64 0, .int .i64 0, .int .i64 0, .slice none 0 0, .slice none 0 0, .int .u64 0] ((w.alloc (.cells #[.int .u64 0, .int .i64 0, .int .u64 0, .int .u64 0, .int .i64 0, .int .i64 0, .slice none 0 0, .slice none 0 0, .int .u64 0] 34)).alloc (.cells #[.int .u64 0, .int .i64 (by_ l 0 : Int), .int .u64 0, .int .u64 0, .int .i64 0, .int .i64 0, .slice none 0 0, .slice none 0 0, .int .u64 0] 34)) := ⟨(Row.new w _ _).alloc _, by
    have := Row.new (w.alloc (.cells #[.int .u64 0, .int .i64 0, .int .u64 0, .int .u64 0, .int .i64 0, .int .i64 0, .slice none 0 0, .slice none 0 0, .int .u64 0] 34)) 34 [.int .u64 0, .int .i64 (by_ l 0 : Int), .int .u64 0, .int .u64 0, .int .i64 0, .int .i64 0, .slice none 0 0, .slice none 0 0, .int .u64 0]
    rwa [World.size_alloc] at this, ((Below.refl _ _).alloc (Nat.le_refl _) _).alloc (by simp) _, (HBS.out.alloc (Nat.le_refl _) _).alloc (by simp) _, by simp⟩
  clear HBS
  generalize (w.alloc (.cells #[.int .u64 0, .int .i64 0, .int .u64 0, .int .u64 0, .int .i64 0, .int .i64 0, .slice none 0 0, .slice none 0 0, .int .u64 0] 34)).alloc (.cells #[.int .u64 0, .int .i64 (by_ l 0 : Int), .int .u64 0, .int .u64 0, .int .i64 0, .int .i64 0, .slice none 0 0, .slice none 0 0, .int .u64 0] 34) = w1 at *
  have H1 := Lib.hid h0
  clear h0 hc0
  have hx1 : w1.cell? ⟨w.heap.size + 1, 1, none⟩ = some (.int .i64 (by_ l 0 : Int)) := H1.out.r5.cell 1
  have hd1 : decide ((by_ l 0 : Int) < 1) = false := by simp; omega
  have hd2 : decide (4 < (by_ l 0 : Int)) = false := by simp; omega
  have hd3 : decide ((n : Int) < 25) = true := by simp; omega

  have HI := Lib.hid (show (Try.prog.info? 34).map (·.size) = some (rcs zeroR zeroS).length from rec_info)
  have HLE := Lib.hid (show (rcs zeroR zeroS).length = (rcs zeroR zeroS).length from rfl)
  have HONE : Hid (∀ v ∈ (rcs zeroR zeroS), v.oneCell' = true) := rcs_one
  have HR2 := Lib.hid H1.out.r2
  go_wp2_with (with_reducible refine wpList_store_whole (op := ⟨none, _, _, _, _, _⟩) ?_ 34 (.tmp 2) (.tmp 30) ?_ w.heap.size (rcs zeroR zeroS) ?_ ?_ 34 (rcs zeroR zeroS) HR2.out HLE.out HONE.out HI.out ?_)
  all_goals try (first | rfl | (simp; done))
  intro w8 hr8 hg8
  have HRES := Lib.hid (run_loadVar_mid (P := Try.prog) w8 w.heap.size 0 34 (rcs zeroR zeroS) _ (Row.all hr8) Try.underlying34 rfl HI.out)
  have HB8 := Lib.hid (below_grown2 H1.out.hb hg8)
  clear hr8 hg8
  go_wp2
  refine bodyPost_ret (v := .tuple #[.agg (rcs zeroR zeroS).toArray, .int .i64 0, .int .i64 7]) (res_cell_tmp2 (p := 2) (q := 3) (q2 := 4) (ty := 34) rfl _ _ ⟨w.heap.size, 0, none⟩ _ _ _ rfl HRES.out rfl rfl) rfl ?_
  exact dec_err HZ.out (by decide) HB8.out


set_option maxHeartbeats 4000000 in
theorem dec_28 (b o n c : Nat) (l : List UInt8) (w : World) (hl : l.length = n) (hnc : n ≤ c) (hcm : c ≤ 140737488351232) (hb : Bs w w.heap.size (some ⟨b, o, none⟩) l) (hlt : b < w.heap.size) (hn : 0 < n) (hk : 1 ≤ by_ l 0 ∧ by_ l 0 ≤ 2) (h25 : 25 ≤ n) (h28 : n < 28) :
    Calls Try.prog 44 #[.slice (some ⟨b, o, none⟩) n c] w (DecOut w (recM l 0)) := by
  have mixed : Try.prog.follows .mixedOrders = true := by kernel_rfl
  have HL := Lib.hid hl
  have hn0 : ((n : Int) == 0) = false := by simp; omega
  have hnn : 0 < (n : Int) := by omega
  have hc0 : w.cell? ⟨b, o, none⟩ = some (.int .u8 (by_ l 0 : Int)) := by
    obtain ⟨b', o', e, _, hc⟩ := hb (by omega)
    cases e
    have := hc 0 (by omega)
    simpa [by_] using this
  have hk256 : by_ l 0 < 256 := by_lt l 0
  have HZ := Lib.hid (recM_s28 l hk (by omega) (by omega))
  have HBS := Lib.hid hb
  clear hl hb
  go_enter Try.func44, Try.ntmps44
  go_upto_region 4 with fail
  have h0 : Dc w (some ⟨b, o, none⟩) l [.int .u64 0, .int .i64 (by_ l 0 : Int), .int .u64 0, .int .u64 0, .int .i64 0, .int .i64 0, .slice none 0 0, .slice none 0 0, .int .u64 0] ((w.alloc (.cells #[.int .u64 0, .int .i64 0, .int .u64 0, .int .u64 0, .int .i64 0, .int .i64 0, .slice none 0 0, .slice none 0 0, .int .u64 0] 34)).alloc (.cells #[.int .u64 0, .int .i64 (by_ l 0 : Int), .int .u64 0, .int .u64 0, .int .i64 0, .int .i64 0, .slice none 0 0, .slice none 0 0, .int .u64 0] 34)) := ⟨(Row.new w _ _).alloc _, by
    have := Row.new (w.alloc (.cells #[.int .u64 0, .int .i64 0, .int .u64 0, .int .u64 0, .int .i64 0, .int .i64 0, .slice none 0 0, .slice none 0 0, .int .u64 0] 34)) 34 [.int .u64 0, .int .i64 (by_ l 0 : Int), .int .u64 0, .int .u64 0, .int .i64 0, .int .i64 0, .slice none 0 0, .slice none 0 0, .int .u64 0]
    rwa [World.size_alloc] at this, ((Below.refl _ _).alloc (Nat.le_refl _) _).alloc (by simp) _, (HBS.out.alloc (Nat.le_refl _) _).alloc (by simp) _, by simp⟩
  clear HBS
  generalize (w.alloc (.cells #[.int .u64 0, .int .i64 0, .int .u64 0, .int .u64 0, .int .i64 0, .int .i64 0, .slice none 0 0, .slice none 0 0, .int .u64 0] 34)).alloc (.cells #[.int .u64 0, .int .i64 (by_ l 0 : Int), .int .u64 0, .int .u64 0, .int .i64 0, .int .i64 0, .slice none 0 0, .slice none 0 0, .int .u64 0] 34) = w1 at *
  have H1 := Lib.hid h0
  clear h0 hc0
  have hx1 : w1.cell? ⟨w.heap.size + 1, 1, none⟩ = some (.int .i64 (by_ l 0 : Int)) := H1.out.r5.cell 1
  have hd1 : decide ((by_ l 0 : Int) < 1) = false := by simp; omega
  have hd2 : decide (4 < (by_ l 0 : Int)) = false := by simp; omega
  have hd3 : decide ((n : Int) < 25) = false := by simp; omega
  have hd4 : decide ((by_ l 0 : Int) ≤ 2) = true := by simp; omega
  have hd5 : decide ((n : Int) < 28) = true := by simp; omega

  go_upto_region 8 with fail
  have hc9 : (9 : Int) ≤ (c : Int) := by omega
  have hc17 : (17 : Int) ≤ (c : Int) := by omega
  have hc25 : (25 : Int) ≤ (c : Int) := by omega
  have hne1 : ¬ c = 1 := by omega
  have hne9 : ¬ c = 9 := by omega
  have hne17 : ¬ c = 17 := by omega
  refine wp_region_held_drew (S := fun _ => True) (by kernel_rfl) trivial (fun hHeld => ?_)
  have H2 := Lib.hid H1.out.drew
  generalize w1.drew = w2 at *
  refine wpAnyH_take (i := 0) (oi := ⟨some 31, _, _, _, _, _⟩) (v := ?v0r8) rfl (by kernel_rfl) (by kernel_rfl) (by kernel_rfl) (fun _ _ _ h => h) (Or.inl ⟨by rfl, ?y0r8⟩) trivial ?r0r8
  case y0r8 =>
    rintro w' hSw
    go_simp
    try with_reducible rfl
  try simp only [Act.put, List.setIfInBounds_toArray, List.set_cons_zero, List.set_cons_succ]
  refine wpAnyH_take (i := 1) (oi := ⟨some 32, _, _, _, _, _⟩) (v := ?v1r8) rfl (by kernel_rfl) (by kernel_rfl) (by kernel_rfl) (fun _ _ _ h => h) (Or.inl ⟨by rfl, ?y1r8⟩) trivial ?r1r8
  case y1r8 =>
    rintro w' hSw
    go_simp
    try with_reducible rfl
  try simp only [Act.put, List.setIfInBounds_toArray, List.set_cons_zero, List.set_cons_succ]
  refine wpAnyH_take (i := 3) (oi := ⟨some 34, _, _, _, _, _⟩) (v := ?v3r8) rfl (by kernel_rfl) (by kernel_rfl) (by kernel_rfl) (fun _ _ _ h => h) (Or.inl ⟨by rfl, ?y3r8⟩) trivial ?r3r8
  case y3r8 =>
    rintro w' hSw
    go_simp
    try with_reducible rfl
  try simp only [Act.put, List.setIfInBounds_toArray, List.set_cons_zero, List.set_cons_succ]
  refine wpAnyH_take (i := 4) (oi := ⟨some 35, _, _, _, _, _⟩) (v := ?v4r8) rfl (by kernel_rfl) (by kernel_rfl) (by kernel_rfl) (fun _ _ _ h => h) (Or.inl ⟨by rfl, ?y4r8⟩) trivial ?r4r8
  case y4r8 =>
    rintro w' hSw
    go_simp
    try with_reducible rfl
  try simp only [Act.put, List.setIfInBounds_toArray, List.set_cons_zero, List.set_cons_succ]
  refine wpAnyH_take (i := 6) (oi := ⟨some 37, _, _, _, _, _⟩) (v := ?v6r8) rfl (by kernel_rfl) (by kernel_rfl) (by kernel_rfl) (fun _ _ _ h => h) (Or.inl ⟨by rfl, ?y6r8⟩) trivial ?r6r8
  case y6r8 =>
    rintro w' hSw
    go_simp
    try with_reducible rfl
  try simp only [Act.put, List.setIfInBounds_toArray, List.set_cons_zero, List.set_cons_succ]
  refine wpAnyH_take (i := 7) (oi := ⟨some 38, _, _, _, _, _⟩) (v := ?v7r8) rfl (by kernel_rfl) (by kernel_rfl) (by kernel_rfl) (fun _ _ _ h => h) (Or.inl ⟨by rfl, ?y7r8⟩) trivial ?r7r8
  case y7r8 =>
    rintro w' hSw
    go_simp
    try with_reducible rfl
  try simp only [Act.put, List.setIfInBounds_toArray, List.set_cons_zero, List.set_cons_succ]
  refine wpAnyH_ready (rs := [2]) (by kernel_rfl) (by simp) ?_
  refine AllReadyH.cons rfl (fun K hK => ?_) AllReadyH.nil
  go_simp
  refine (num_any (some ⟨b, o + 1, none⟩) (sl l 1 8) 8 (c - 1) w.heap.size w2 (sl_len l 1 8 (by have := HL.out; omega)) (by omega) (H2.out.cut 1 8 (by have := HL.out; omega))).mono ?_
  rintro e w3 ⟨rfl, hst⟩
  have H3 := H2
  rw [hst] at H3
  clear hst
  refine hK _ _ trivial (fun _ => ?_)
  clear hK K
  try simp only [Act.put, List.setIfInBounds_toArray, List.set_cons_zero, List.set_cons_succ]
  refine wpAnyH_take (i := 9) (oi := ⟨some 40, _, _, _, _, _⟩) (v := ?v9r8) rfl (by kernel_rfl) (by kernel_rfl) (by kernel_rfl) (fun _ _ _ h => h) (Or.inl ⟨by rfl, ?y9r8⟩) trivial ?r9r8
  case y9r8 =>
    rintro w' hSw
    go_simp
    try with_reducible rfl
  try simp only [Act.put, List.setIfInBounds_toArray, List.set_cons_zero, List.set_cons_succ]
  refine wpAnyH_ready (rs := [5]) (by kernel_rfl) (by simp) ?_
  refine AllReadyH.cons rfl (fun K hK => ?_) AllReadyH.nil
  go_simp
  refine (num_any (some ⟨b, o + 9, none⟩) (sl l 9 8) 8 (c - 9) w.heap.size w3 (sl_len l 9 8 (by have := HL.out; omega)) (by omega) (H3.out.cut 9 8 (by have := HL.out; omega))).mono ?_
  rintro e w4 ⟨rfl, hst⟩
  have H4 := H3
  rw [hst] at H4
  clear hst
  refine hK _ _ trivial (fun _ => ?_)
  clear hK K
  try simp only [Act.put, List.setIfInBounds_toArray, List.set_cons_zero, List.set_cons_succ]
  refine wpAnyH_ready (rs := [8]) (by kernel_rfl) (by simp) ?_
  refine AllReadyH.cons rfl (fun K hK => ?_) AllReadyH.nil
  go_simp
  refine (num_any (some ⟨b, o + 17, none⟩) (sl l 17 8) 8 (c - 17) w.heap.size w4 (sl_len l 17 8 (by have := HL.out; omega)) (by omega) (H4.out.cut 17 8 (by have := HL.out; omega))).mono ?_
  rintro e w5 ⟨rfl, hst⟩
  have H5 := H4
  rw [hst] at H5
  clear hst
  refine hK _ _ trivial (fun _ => ?_)
  clear hK K
  try simp only [Act.put, List.setIfInBounds_toArray, List.set_cons_zero, List.set_cons_succ]
  refine wpAnyH_ready (rs := [10]) (by kernel_rfl) (by simp) ?_
  refine AllReadyH.cons rfl (fun K hK => ?_) AllReadyH.nil
  have hcl : w5.cell? ⟨w.heap.size + 1, 0, none⟩ = some (.int .u64 0) := H5.out.r5.cell 0
  have hfr := H5.out.r5.frozen 0
  go_simp
  have H6 := Lib.hid (H5.out.set 0 (.int .u64 (num (sl l 1 8) : Int)))
  generalize w5.setCell ⟨w.heap.size + 1, 0, none⟩ (.int .u64 (num (sl l 1 8) : Int)) = w6 at H6 ⊢
  clear hcl hfr
  refine hK _ _ trivial (fun _ => ?_)
  clear hK K
  try simp only [Act.put, List.setIfInBounds_toArray, List.set_cons_zero, List.set_cons_succ]
  refine wpAnyH_take (i := 11) (oi := ⟨some 41, _, _, _, _, _⟩) (v := ?v11r8) rfl (by kernel_rfl) (by kernel_rfl) (by kernel_rfl) (fun _ _ _ h => h) (Or.inl ⟨by rfl, ?y11r8⟩) trivial ?r11r8
  case y11r8 =>
    rintro w' hSw
    go_simp
    try with_reducible rfl
  try simp only [Act.put, List.setIfInBounds_toArray, List.set_cons_zero, List.set_cons_succ]
  refine wpAnyH_ready (rs := [12]) (by kernel_rfl) (by simp) ?_
  refine AllReadyH.cons rfl (fun K hK => ?_) AllReadyH.nil
  have hcl : w6.cell? ⟨w.heap.size + 1, 2, none⟩ = some (.int .u64 0) := H6.out.r5.cell 2
  have hfr := H6.out.r5.frozen 2
  go_simp
  have H7 := Lib.hid (H6.out.set 2 (.int .u64 (num (sl l 9 8) : Int)))
  generalize w6.setCell ⟨w.heap.size + 1, 2, none⟩ (.int .u64 (num (sl l 9 8) : Int)) = w7 at H7 ⊢
  clear hcl hfr
  refine hK _ _ trivial (fun _ => ?_)
  clear hK K
  try simp only [Act.put, List.setIfInBounds_toArray, List.set_cons_zero, List.set_cons_succ]
  refine wpAnyH_take (i := 13) (oi := ⟨some 42, _, _, _, _, _⟩) (v := ?v13r8) rfl (by kernel_rfl) (by kernel_rfl) (by kernel_rfl) (fun _ _ _ h => h) (Or.inl ⟨by rfl, ?y13r8⟩) trivial ?r13r8
  case y13r8 =>
    rintro w' hSw
    go_simp
    try with_reducible rfl
  try simp only [Act.put, List.setIfInBounds_toArray, List.set_cons_zero, List.set_cons_succ]
  refine wpAnyH_ready (rs := [14]) (by kernel_rfl) (by simp) ?_
  refine AllReadyH.cons rfl (fun K hK => ?_) AllReadyH.nil
  have hcl : w7.cell? ⟨w.heap.size + 1, 3, none⟩ = some (.int .u64 0) := H7.out.r5.cell 3
  have hfr := H7.out.r5.frozen 3
  go_simp
  have H8 := Lib.hid (H7.out.set 3 (.int .u64 (num (sl l 17 8) : Int)))
  generalize w7.setCell ⟨w.heap.size + 1, 3, none⟩ (.int .u64 (num (sl l 17 8) : Int)) = w8 at H8 ⊢
  clear hcl hfr
  refine hK _ _ trivial (fun _ => ?_)
  clear hK K
  try simp only [Act.put, List.setIfInBounds_toArray, List.set_cons_zero, List.set_cons_succ]
  refine wpAnyH_done (by kernel_rfl) ?_ _
  have H9 := Lib.hid (show Dc w (some ⟨b, o, none⟩) l [.int .u64 (n8 l 1 : Int), .int .i64 (by_ l 0 : Int), .int .u64 (n8 l 9 : Int), .int .u64 (n8 l 17 : Int), .int .i64 0, .int .i64 0, .slice none 0 0, .slice none 0 0, .int .u64 0] w8 from H8.out)
  clear H1 H2 H3 H4 H5 H6 H7 H8
  have hx1w8 : w8.cell? ⟨w.heap.size + 1, 1, none⟩ = some (.int .i64 (by_ l 0 : Int)) := H9.out.r5.cell 1
  have HI := Lib.hid (show (Try.prog.info? 34).map (·.size) = some (rcs zeroR zeroS).length from rec_info)
  have HLE := Lib.hid (show (rcs zeroR zeroS).length = (rcs zeroR zeroS).length from rfl)
  have HONE : Hid (∀ v ∈ (rcs zeroR zeroS), v.oneCell' = true) := rcs_one
  have HR2 := Lib.hid H9.out.r2
  go_wp2_with (with_reducible refine wpList_store_whole (op := ⟨none, _, _, _, _, _⟩) ?_ 34 (.tmp 2) (.tmp 49) ?_ w.heap.size (rcs zeroR zeroS) ?_ ?_ 34 (rcs zeroR zeroS) HR2.out HLE.out HONE.out HI.out ?_)
  all_goals try (first | rfl | (simp; done))
  intro w8 hr8 hg8
  have HRES := Lib.hid (run_loadVar_mid (P := Try.prog) w8 w.heap.size 0 34 (rcs zeroR zeroS) _ (Row.all hr8) Try.underlying34 rfl HI.out)
  have HB8 := Lib.hid (below_grown2 H9.out.hb hg8)
  clear hr8 hg8
  go_wp2
  refine bodyPost_ret (v := .tuple #[.agg (rcs zeroR zeroS).toArray, .int .i64 0, .int .i64 7]) (res_cell_tmp2 (p := 2) (q := 3) (q2 := 4) (ty := 34) rfl _ _ ⟨w.heap.size, 0, none⟩ _ _ _ rfl HRES.out rfl rfl) rfl ?_
  exact dec_err HZ.out (by decide) HB8.out


set_option maxHeartbeats 4000000 in
theorem dec_34 (b o n c : Nat) (l : List UInt8) (w : World) (hl : l.length = n) (hnc : n ≤ c) (hcm : c ≤ 140737488351232) (hb : Bs w w.heap.size (some ⟨b, o, none⟩) l) (hlt : b < w.heap.size) (hn : 0 < n) (hk : 3 ≤ by_ l 0 ∧ by_ l 0 ≤ 4) (h25 : 25 ≤ n) :
    Calls Try.prog 44 #[.slice (some ⟨b, o, none⟩) n c] w (DecOut w (recM l 0)) := by
  have mixed : Try.prog.follows .mixedOrders = true := by kernel_rfl
  have HL := Lib.hid hl
  have hn0 : ((n : Int) == 0) = false := by simp; omega
  have hnn : 0 < (n : Int) := by omega
  have hc0 : w.cell? ⟨b, o, none⟩ = some (.int .u8 (by_ l 0 : Int)) := by
    obtain ⟨b', o', e, _, hc⟩ := hb (by omega)
    cases e
    have := hc 0 (by omega)
    simpa [by_] using this
  have hk256 : by_ l 0 < 256 := by_lt l 0
  have HZ := Lib.hid (recM_34 l hk (by omega))
  have HBS := Lib.hid hb
  clear hl hb
  go_enter Try.func44, Try.ntmps44
  go_upto_region 4 with fail
  have h0 : Dc w (some ⟨b, o, none⟩) l [.int .u64 0, .int .i64 (by_ l 0 : Int), .int .u64 0, .int .u64 0, .int .i64 0, .int .i64 0, .slice none 0 0, .slice none 0 0, .int .u64 0] ((w.alloc (.cells #[.int .u64 0, .int .i64 0, .int .u64 0, .int .u64 0, .int .i64 0, .int .i64 0, .slice none 0 0, .slice none 0 0, .int .u64 0] 34)).alloc (.cells #[.int .u64 0, .int .i64 (by_ l 0 : Int), .int .u64 0, .int .u64 0, .int .i64 0, .int .i64 0, .slice none 0 0, .slice none 0 0, .int .u64 0] 34)) := ⟨(Row.new w _ _).alloc _, by
    have := Row.new (w.alloc (.cells #[.int .u64 0, .int .i64 0, .int .u64 0, .int .u64 0, .int .i64 0, .int .i64 0, .slice none 0 0, .slice none 0 0, .int .u64 0] 34)) 34 [.int .u64 0, .int .i64 (by_ l 0 : Int), .int .u64 0, .int .u64 0, .int .i64 0, .int .i64 0, .slice none 0 0, .slice none 0 0, .int .u64 0]
    rwa [World.size_alloc] at this, ((Below.refl _ _).alloc (Nat.le_refl _) _).alloc (by simp) _, (HBS.out.alloc (Nat.le_refl _) _).alloc (by simp) _, by simp⟩
  clear HBS
  generalize (w.alloc (.cells #[.int .u64 0, .int .i64 0, .int .u64 0, .int .u64 0, .int .i64 0, .int .i64 0, .slice none 0 0, .slice none 0 0, .int .u64 0] 34)).alloc (.cells #[.int .u64 0, .int .i64 (by_ l 0 : Int), .int .u64 0, .int .u64 0, .int .i64 0, .int .i64 0, .slice none 0 0, .slice none 0 0, .int .u64 0] 34) = w1 at *
  have H1 := Lib.hid h0
  clear h0 hc0
  have hx1 : w1.cell? ⟨w.heap.size + 1, 1, none⟩ = some (.int .i64 (by_ l 0 : Int)) := H1.out.r5.cell 1
  have hd1 : decide ((by_ l 0 : Int) < 1) = false := by simp; omega
  have hd2 : decide (4 < (by_ l 0 : Int)) = false := by simp; omega
  have hd3 : decide ((n : Int) < 25) = false := by simp; omega
  have hd4 : decide ((by_ l 0 : Int) ≤ 2) = false := by simp; omega

  go_upto_region 8 with fail
  have hc9 : (9 : Int) ≤ (c : Int) := by omega
  have hc17 : (17 : Int) ≤ (c : Int) := by omega
  have hc25 : (25 : Int) ≤ (c : Int) := by omega
  have hne1 : ¬ c = 1 := by omega
  have hne9 : ¬ c = 9 := by omega
  have hne17 : ¬ c = 17 := by omega
  refine wp_region_held_drew (S := fun _ => True) (by kernel_rfl) trivial (fun hHeld => ?_)
  have H2 := Lib.hid H1.out.drew
  generalize w1.drew = w2 at *
  refine wpAnyH_take (i := 0) (oi := ⟨some 31, _, _, _, _, _⟩) (v := ?v0r8) rfl (by kernel_rfl) (by kernel_rfl) (by kernel_rfl) (fun _ _ _ h => h) (Or.inl ⟨by rfl, ?y0r8⟩) trivial ?r0r8
  case y0r8 =>
    rintro w' hSw
    go_simp
    try with_reducible rfl
  try simp only [Act.put, List.setIfInBounds_toArray, List.set_cons_zero, List.set_cons_succ]
  refine wpAnyH_take (i := 1) (oi := ⟨some 32, _, _, _, _, _⟩) (v := ?v1r8) rfl (by kernel_rfl) (by kernel_rfl) (by kernel_rfl) (fun _ _ _ h => h) (Or.inl ⟨by rfl, ?y1r8⟩) trivial ?r1r8
  case y1r8 =>
    rintro w' hSw
    go_simp
    try with_reducible rfl
  try simp only [Act.put, List.setIfInBounds_toArray, List.set_cons_zero, List.set_cons_succ]
  refine wpAnyH_take (i := 3) (oi := ⟨some 34, _, _, _, _, _⟩) (v := ?v3r8) rfl (by kernel_rfl) (by kernel_rfl) (by kernel_rfl) (fun _ _ _ h => h) (Or.inl ⟨by rfl, ?y3r8⟩) trivial ?r3r8
  case y3r8 =>
    rintro w' hSw
    go_simp
    try with_reducible rfl
  try simp only [Act.put, List.setIfInBounds_toArray, List.set_cons_zero, List.set_cons_succ]
  refine wpAnyH_take (i := 4) (oi := ⟨some 35, _, _, _, _, _⟩) (v := ?v4r8) rfl (by kernel_rfl) (by kernel_rfl) (by kernel_rfl) (fun _ _ _ h => h) (Or.inl ⟨by rfl, ?y4r8⟩) trivial ?r4r8
  case y4r8 =>
    rintro w' hSw
    go_simp
    try with_reducible rfl
  try simp only [Act.put, List.setIfInBounds_toArray, List.set_cons_zero, List.set_cons_succ]
  refine wpAnyH_take (i := 6) (oi := ⟨some 37, _, _, _, _, _⟩) (v := ?v6r8) rfl (by kernel_rfl) (by kernel_rfl) (by kernel_rfl) (fun _ _ _ h => h) (Or.inl ⟨by rfl, ?y6r8⟩) trivial ?r6r8
  case y6r8 =>
    rintro w' hSw
    go_simp
    try with_reducible rfl
  try simp only [Act.put, List.setIfInBounds_toArray, List.set_cons_zero, List.set_cons_succ]
  refine wpAnyH_take (i := 7) (oi := ⟨some 38, _, _, _, _, _⟩) (v := ?v7r8) rfl (by kernel_rfl) (by kernel_rfl) (by kernel_rfl) (fun _ _ _ h => h) (Or.inl ⟨by rfl, ?y7r8⟩) trivial ?r7r8
  case y7r8 =>
    rintro w' hSw
    go_simp
    try with_reducible rfl
  try simp only [Act.put, List.setIfInBounds_toArray, List.set_cons_zero, List.set_cons_succ]
  refine wpAnyH_ready (rs := [2]) (by kernel_rfl) (by simp) ?_
  refine AllReadyH.cons rfl (fun K hK => ?_) AllReadyH.nil
  go_simp
  refine (num_any (some ⟨b, o + 1, none⟩) (sl l 1 8) 8 (c - 1) w.heap.size w2 (sl_len l 1 8 (by have := HL.out; omega)) (by omega) (H2.out.cut 1 8 (by have := HL.out; omega))).mono ?_
  rintro e w3 ⟨rfl, hst⟩
  have H3 := H2
  rw [hst] at H3
  clear hst
  refine hK _ _ trivial (fun _ => ?_)
  clear hK K
  try simp only [Act.put, List.setIfInBounds_toArray, List.set_cons_zero, List.set_cons_succ]
  refine wpAnyH_take (i := 9) (oi := ⟨some 40, _, _, _, _, _⟩) (v := ?v9r8) rfl (by kernel_rfl) (by kernel_rfl) (by kernel_rfl) (fun _ _ _ h => h) (Or.inl ⟨by rfl, ?y9r8⟩) trivial ?r9r8
  case y9r8 =>
    rintro w' hSw
    go_simp
    try with_reducible rfl
  try simp only [Act.put, List.setIfInBounds_toArray, List.set_cons_zero, List.set_cons_succ]
  refine wpAnyH_ready (rs := [5]) (by kernel_rfl) (by simp) ?_
  refine AllReadyH.cons rfl (fun K hK => ?_) AllReadyH.nil
  go_simp
  refine (num_any (some ⟨b, o + 9, none⟩) (sl l 9 8) 8 (c - 9) w.heap.size w3 (sl_len l 9 8 (by have := HL.out; omega)) (by omega) (H3.out.cut 9 8 (by have := HL.out; omega))).mono ?_
  rintro e w4 ⟨rfl, hst⟩
  have H4 := H3
  rw [hst] at H4
  clear hst
  refine hK _ _ trivial (fun _ => ?_)
  clear hK K
  try simp only [Act.put, List.setIfInBounds_toArray, List.set_cons_zero, List.set_cons_succ]
  refine wpAnyH_ready (rs := [8]) (by kernel_rfl) (by simp) ?_
  refine AllReadyH.cons rfl (fun K hK => ?_) AllReadyH.nil
  go_simp
  refine (num_any (some ⟨b, o + 17, none⟩) (sl l 17 8) 8 (c - 17) w.heap.size w4 (sl_len l 17 8 (by have := HL.out; omega)) (by omega) (H4.out.cut 17 8 (by have := HL.out; omega))).mono ?_
  rintro e w5 ⟨rfl, hst⟩
  have H5 := H4
  rw [hst] at H5
  clear hst
  refine hK _ _ trivial (fun _ => ?_)
  clear hK K
  try simp only [Act.put, List.setIfInBounds_toArray, List.set_cons_zero, List.set_cons_succ]
  refine wpAnyH_ready (rs := [10]) (by kernel_rfl) (by simp) ?_
  refine AllReadyH.cons rfl (fun K hK => ?_) AllReadyH.nil
  have hcl : w5.cell? ⟨w.heap.size + 1, 0, none⟩ = some (.int .u64 0) := H5.out.r5.cell 0
  have hfr := H5.out.r5.frozen 0
  go_simp
  have H6 := Lib.hid (H5.out.set 0 (.int .u64 (num (sl l 1 8) : Int)))
  generalize w5.setCell ⟨w.heap.size + 1, 0, none⟩ (.int .u64 (num (sl l 1 8) : Int)) = w6 at H6 ⊢
  clear hcl hfr
  refine hK _ _ trivial (fun _ => ?_)
  clear hK K
  try simp only [Act.put, List.setIfInBounds_toArray, List.set_cons_zero, List.set_cons_succ]
  refine wpAnyH_take (i := 11) (oi := ⟨some 41, _, _, _, _, _⟩) (v := ?v11r8) rfl (by kernel_rfl) (by kernel_rfl) (by kernel_rfl) (fun _ _ _ h => h) (Or.inl ⟨by rfl, ?y11r8⟩) trivial ?r11r8
  case y11r8 =>
    rintro w' hSw
    go_simp
    try with_reducible rfl
  try simp only [Act.put, List.setIfInBounds_toArray, List.set_cons_zero, List.set_cons_succ]
  refine wpAnyH_ready (rs := [12]) (by kernel_rfl) (by simp) ?_
  refine AllReadyH.cons rfl (fun K hK => ?_) AllReadyH.nil
  have hcl : w6.cell? ⟨w.heap.size + 1, 2, none⟩ = some (.int .u64 0) := H6.out.r5.cell 2
  have hfr := H6.out.r5.frozen 2
  go_simp
  have H7 := Lib.hid (H6.out.set 2 (.int .u64 (num (sl l 9 8) : Int)))
  generalize w6.setCell ⟨w.heap.size + 1, 2, none⟩ (.int .u64 (num (sl l 9 8) : Int)) = w7 at H7 ⊢
  clear hcl hfr
  refine hK _ _ trivial (fun _ => ?_)
  clear hK K
  try simp only [Act.put, List.setIfInBounds_toArray, List.set_cons_zero, List.set_cons_succ]
  refine wpAnyH_take (i := 13) (oi := ⟨some 42, _, _, _, _, _⟩) (v := ?v13r8) rfl (by kernel_rfl) (by kernel_rfl) (by kernel_rfl) (fun _ _ _ h => h) (Or.inl ⟨by rfl, ?y13r8⟩) trivial ?r13r8
  case y13r8 =>
    rintro w' hSw
    go_simp
    try with_reducible rfl
  try simp only [Act.put, List.setIfInBounds_toArray, List.set_cons_zero, List.set_cons_succ]
  refine wpAnyH_ready (rs := [14]) (by kernel_rfl) (by simp) ?_
  refine AllReadyH.cons rfl (fun K hK => ?_) AllReadyH.nil
  have hcl : w7.cell? ⟨w.heap.size + 1, 3, none⟩ = some (.int .u64 0) := H7.out.r5.cell 3
  have hfr := H7.out.r5.frozen 3
  go_simp
  have H8 := Lib.hid (H7.out.set 3 (.int .u64 (num (sl l 17 8) : Int)))
  generalize w7.setCell ⟨w.heap.size + 1, 3, none⟩ (.int .u64 (num (sl l 17 8) : Int)) = w8 at H8 ⊢
  clear hcl hfr
  refine hK _ _ trivial (fun _ => ?_)
  clear hK K
  try simp only [Act.put, List.setIfInBounds_toArray, List.set_cons_zero, List.set_cons_succ]
  refine wpAnyH_done (by kernel_rfl) ?_ _
  have H9 := Lib.hid (show Dc w (some ⟨b, o, none⟩) l [.int .u64 (n8 l 1 : Int), .int .i64 (by_ l 0 : Int), .int .u64 (n8 l 9 : Int), .int .u64 (n8 l 17 : Int), .int .i64 0, .int .i64 0, .slice none 0 0, .slice none 0 0, .int .u64 0] w8 from H8.out)
  clear H1 H2 H3 H4 H5 H6 H7 H8
  have hx1w8 : w8.cell? ⟨w.heap.size + 1, 1, none⟩ = some (.int .i64 (by_ l 0 : Int)) := H9.out.r5.cell 1
  obtain ⟨R, hRe⟩ : ∃ R : RM, R = ⟨n8 l 1, (by_ l 0 : Int), n8 l 9, n8 l 17, 0, 0, [], [], 0⟩ := ⟨_, rfl⟩
  obtain ⟨S, hSe⟩ : ∃ S : RS, S = zeroS := ⟨_, rfl⟩
  have HW5 : Hid (Row w8 (w.heap.size + 1) 34 (rcs R S)) := (show Row _ _ _ _ by rw [hRe, hSe]; exact H9.out.r5)
  have HREC : Hid (RecAt w8 w.heap.size R S) := (show RecAt _ _ _ _ by rw [hRe, hSe]; exact RecAt.more ⟨rfl, rfl, by show 0 ≤ _; omega, by show 0 ≤ _; omega, Bs.nil _ _ _, Bs.nil _ _ _, fun _ => rfl, fun _ => rfl⟩ (Nat.zero_le _))
  have HZR : Hid (recM l 0 = if okM R = true then (0, R, (25, 0)) else (150, zeroR, (25, 0))) := (show _ = _ by rw [hRe]; exact HZ.out)
  have HI := Lib.hid (show (Try.prog.info? 34).map (·.size) = some (rcs R S).length from rec_info)
  have HLE := Lib.hid (show (rcs R S).length = (rcs zeroR zeroS).length from rfl)
  have HONE : Hid (∀ v ∈ (rcs R S), v.oneCell' = true) := rcs_one
  clear hRe hSe
  go_wp2_with (with_reducible refine wpList_load_row (op := ⟨some 134, _, _, _, _, _⟩) ?_ 34 (.tmp 5) ?_ (w.heap.size + 1) 0 ?_ (rcs R S) _ (Row.all HW5.out) Try.underlying34 ?_ HI.out ?_)
  all_goals try (first | rfl | (simp; done))
  refine (right_any R S w.heap.size w8 HREC.out H9.out.hb.size).mono ?_
  rintro e wr ⟨rfl, hbr⟩
  have hsz : w.heap.size + 1 < w8.heap.size := by have := H9.out.hs; omega
  have HW2 := Lib.hid (H9.out.r2.below hbr (by omega))
  replace HW5 := Lib.hid (HW5.out.below hbr hsz)
  have HBB := Lib.hid (H9.out.hb.trans (hbr.mono H9.out.hb.size))
  replace HREC := Lib.hid ((HREC.out.below (hbr.mono H9.out.hb.size)).more HBB.out.size)
  clear hbr
  cases hK : okM R
  · have HK := Lib.hid hK
    have HZ7 : Hid ((recM l 0).1 = 150) := (show _ = _ by rw [HZR.out, hK]; rfl)
    have HI := Lib.hid (show (Try.prog.info? 34).map (·.size) = some (rcs zeroR zeroS).length from rec_info)
    have HLE := Lib.hid (show (rcs zeroR zeroS).length = zcs.length from rfl)
    have HW2z := Lib.hid (show Row wr w.heap.size 34 zcs from HW2.out)
    have HONE : Hid (∀ v ∈ (rcs zeroR zeroS), v.oneCell' = true) := rcs_one
    go_wp2_with (with_reducible refine wpList_store_whole (op := ⟨none, _, _, _, _, _⟩) ?_ 34 (.tmp 2) (.tmp 137) ?_ w.heap.size (rcs zeroR zeroS) ?_ ?_ 34 zcs HW2z.out HLE.out HONE.out HI.out ?_)
    all_goals try (first | rfl | (simp; done))
    intro wz hr8 hg8
    have HRES := Lib.hid (run_loadVar_mid (P := Try.prog) wz w.heap.size 0 34 (rcs zeroR zeroS) _ (Row.all hr8) Try.underlying34 rfl HI.out)
    have HB8 := Lib.hid (below_grown2 HBB.out hg8)
    clear hr8 hg8
    go_wp2
    refine bodyPost_ret (v := .tuple #[.agg (rcs zeroR zeroS).toArray, .int .i64 0, .int .i64 150]) (res_cell_tmp2 (p := 2) (q := 3) (q2 := 4) (ty := 34) rfl _ _ ⟨w.heap.size, 0, none⟩ _ _ _ rfl HRES.out rfl rfl) rfl ?_
    exact dec_err HZ7.out (by decide) HB8.out
  · have HZ7 : Hid (recM l 0 = (0, R, (25, 0))) := (show _ = _ by rw [HZR.out, if_pos hK])
    go_wp2_with (first
      | (with_reducible refine wpList_load_row (op := ⟨some 138, _, _, _, _, _⟩) ?_ 34 (.tmp 5) ?_ (w.heap.size + 1) 0 ?_ (rcs R S) _ (Row.all HW5.out) Try.underlying34 ?_ HI.out ?_)
      | (with_reducible refine wpList_store_whole (op := ⟨none, _, _, _, _, _⟩) ?_ 34 (.tmp 2) (.tmp 138) ?_ w.heap.size (rcs R S) ?_ ?_ 34 (rcs zeroR zeroS) HW2.out HLE.out HONE.out HI.out ?_))
    all_goals try (first | rfl | (simp; done))
    intro wz hr8 hg8
    have HRES := Lib.hid (run_loadVar_mid (P := Try.prog) wz w.heap.size 0 34 (rcs R S) _ (Row.all hr8) Try.underlying34 rfl HI.out)
    have HB8 := Lib.hid (below_grown2 HBB.out hg8)
    have HRE := Lib.hid ((RecAt.far (r0 := zeroR) (s0 := zeroS) HREC.out (Nat.le_refl _) HW2.out (w' := wz) (fun j hj hlt => hg8.block j hlt (fun e => hj (Option.some.inj e)))).more hg8.size)
    clear hr8 hg8
    go_wp2
    refine bodyPost_ret (v := .tuple #[.agg (rcs R S).toArray, .int .i64 25, .int .i64 0]) (res_cell_tmp2 (p := 2) (q := 3) (q2 := 4) (ty := 34) rfl _ _ ⟨w.heap.size, 0, none⟩ _ _ _ rfl HRES.out rfl rfl) rfl ?_
    exact ⟨S, by rw [HZ7.out]; rfl, by rw [HZ7.out]; exact HRE.out, HB8.out⟩


set_option maxHeartbeats 4000000 in
theorem dec_1old (b o n c : Nat) (l : List UInt8) (w : World) (hl : l.length = n) (hnc : n ≤ c) (hcm : c ≤ 140737488351232) (hb : Bs w w.heap.size (some ⟨b, o, none⟩) l) (hlt : b < w.heap.size) (hn : 0 < n) (hk : by_ l 0 = 1) (h28 : 28 ≤ n) (h2 : n < 29 + by_ l 27) :
    Calls Try.prog 44 #[.slice (some ⟨b, o, none⟩) n c] w (DecOut w (recM l 0)) := by
  have mixed : Try.prog.follows .mixedOrders = true := by kernel_rfl
  have HL := Lib.hid hl
  have hn0 : ((n : Int) == 0) = false := by simp; omega
  have hnn : 0 < (n : Int) := by omega
  have hc0 : w.cell? ⟨b, o, none⟩ = some (.int .u8 (by_ l 0 : Int)) := by
    obtain ⟨b', o', e, _, hc⟩ := hb (by omega)
    cases e
    have := hc 0 (by omega)
    simpa [by_] using this
  have hk256 : by_ l 0 < 256 := by_lt l 0
  have HZ := Lib.hid (recM_short l 15 true true true false (by omega) (by rw [hk]; rfl) (by decide) (by decide) (by decide) (by decide) (by decide) (one_old l (by omega) (by omega)))
  have hkb : 1 ≤ by_ l 0 ∧ by_ l 0 ≤ 1 := by omega
  clear hk
  have HBS := Lib.hid hb
  clear hl hb
  go_enter Try.func44, Try.ntmps44
  go_upto_region 4 with fail
  have h0 : Dc w (some ⟨b, o, none⟩) l [.int .u64 0, .int .i64 (by_ l 0 : Int), .int .u64 0, .int .u64 0, .int .i64 0, .int .i64 0, .slice none 0 0, .slice none 0 0, .int .u64 0] ((w.alloc (.cells #[.int .u64 0, .int .i64 0, .int .u64 0, .int .u64 0, .int .i64 0, .int .i64 0, .slice none 0 0, .slice none 0 0, .int .u64 0] 34)).alloc (.cells #[.int .u64 0, .int .i64 (by_ l 0 : Int), .int .u64 0, .int .u64 0, .int .i64 0, .int .i64 0, .slice none 0 0, .slice none 0 0, .int .u64 0] 34)) := ⟨(Row.new w _ _).alloc _, by
    have := Row.new (w.alloc (.cells #[.int .u64 0, .int .i64 0, .int .u64 0, .int .u64 0, .int .i64 0, .int .i64 0, .slice none 0 0, .slice none 0 0, .int .u64 0] 34)) 34 [.int .u64 0, .int .i64 (by_ l 0 : Int), .int .u64 0, .int .u64 0, .int .i64 0, .int .i64 0, .slice none 0 0, .slice none 0 0, .int .u64 0]
    rwa [World.size_alloc] at this, ((Below.refl _ _).alloc (Nat.le_refl _) _).alloc (by simp) _, (HBS.out.alloc (Nat.le_refl _) _).alloc (by simp) _, by simp⟩
  clear HBS
  generalize (w.alloc (.cells #[.int .u64 0, .int .i64 0, .int .u64 0, .int .u64 0, .int .i64 0, .int .i64 0, .slice none 0 0, .slice none 0 0, .int .u64 0] 34)).alloc (.cells #[.int .u64 0, .int .i64 (by_ l 0 : Int), .int .u64 0, .int .u64 0, .int .i64 0, .int .i64 0, .slice none 0 0, .slice none 0 0, .int .u64 0] 34) = w1 at *
  have H1 := Lib.hid h0
  clear h0 hc0
  have hx1 : w1.cell? ⟨w.heap.size + 1, 1, none⟩ = some (.int .i64 (by_ l 0 : Int)) := H1.out.r5.cell 1
  have hd1 : decide ((by_ l 0 : Int) < 1) = false := by simp; omega
  have hd2 : decide (4 < (by_ l 0 : Int)) = false := by simp; omega
  have hd3 : decide ((n : Int) < 25) = false := by simp; omega
  have hd4 : decide ((by_ l 0 : Int) ≤ 2) = true := by simp; omega
  have hd5 : decide ((n : Int) < 28) = false := by simp; omega
  have hd6 : ((by_ l 0 : Int) == 1) = true := by simp; omega

  go_upto_region 8 with fail
  have hc9 : (9 : Int) ≤ (c : Int) := by omega
  have hc17 : (17 : Int) ≤ (c : Int) := by omega
  have hc25 : (25 : Int) ≤ (c : Int) := by omega
  have hne1 : ¬ c = 1 := by omega
  have hne9 : ¬ c = 9 := by omega
  have hne17 : ¬ c = 17 := by omega
  refine wp_region_held_drew (S := fun _ => True) (by kernel_rfl) trivial (fun hHeld => ?_)
  have H2 := Lib.hid H1.out.drew
  generalize w1.drew = w2 at *
  refine wpAnyH_take (i := 0) (oi := ⟨some 31, _, _, _, _, _⟩) (v := ?v0r8) rfl (by kernel_rfl) (by kernel_rfl) (by kernel_rfl) (fun _ _ _ h => h) (Or.inl ⟨by rfl, ?y0r8⟩) trivial ?r0r8
  case y0r8 =>
    rintro w' hSw
    go_simp
    try with_reducible rfl
  try simp only [Act.put, List.setIfInBounds_toArray, List.set_cons_zero, List.set_cons_succ]
  refine wpAnyH_take (i := 1) (oi := ⟨some 32, _, _, _, _, _⟩) (v := ?v1r8) rfl (by kernel_rfl) (by kernel_rfl) (by kernel_rfl) (fun _ _ _ h => h) (Or.inl ⟨by rfl, ?y1r8⟩) trivial ?r1r8
  case y1r8 =>
    rintro w' hSw
    go_simp
    try with_reducible rfl
  try simp only [Act.put, List.setIfInBounds_toArray, List.set_cons_zero, List.set_cons_succ]
  refine wpAnyH_take (i := 3) (oi := ⟨some 34, _, _, _, _, _⟩) (v := ?v3r8) rfl (by kernel_rfl) (by kernel_rfl) (by kernel_rfl) (fun _ _ _ h => h) (Or.inl ⟨by rfl, ?y3r8⟩) trivial ?r3r8
  case y3r8 =>
    rintro w' hSw
    go_simp
    try with_reducible rfl
  try simp only [Act.put, List.setIfInBounds_toArray, List.set_cons_zero, List.set_cons_succ]
  refine wpAnyH_take (i := 4) (oi := ⟨some 35, _, _, _, _, _⟩) (v := ?v4r8) rfl (by kernel_rfl) (by kernel_rfl) (by kernel_rfl) (fun _ _ _ h => h) (Or.inl ⟨by rfl, ?y4r8⟩) trivial ?r4r8
  case y4r8 =>
    rintro w' hSw
    go_simp
    try with_reducible rfl
  try simp only [Act.put, List.setIfInBounds_toArray, List.set_cons_zero, List.set_cons_succ]
  refine wpAnyH_take (i := 6) (oi := ⟨some 37, _, _, _, _, _⟩) (v := ?v6r8) rfl (by kernel_rfl) (by kernel_rfl) (by kernel_rfl) (fun _ _ _ h => h) (Or.inl ⟨by rfl, ?y6r8⟩) trivial ?r6r8
  case y6r8 =>
    rintro w' hSw
    go_simp
    try with_reducible rfl
  try simp only [Act.put, List.setIfInBounds_toArray, List.set_cons_zero, List.set_cons_succ]
  refine wpAnyH_take (i := 7) (oi := ⟨some 38, _, _, _, _, _⟩) (v := ?v7r8) rfl (by kernel_rfl) (by kernel_rfl) (by kernel_rfl) (fun _ _ _ h => h) (Or.inl ⟨by rfl, ?y7r8⟩) trivial ?r7r8
  case y7r8 =>
    rintro w' hSw
    go_simp
    try with_reducible rfl
  try simp only [Act.put, List.setIfInBounds_toArray, List.set_cons_zero, List.set_cons_succ]
  refine wpAnyH_ready (rs := [2]) (by kernel_rfl) (by simp) ?_
  refine AllReadyH.cons rfl (fun K hK => ?_) AllReadyH.nil
  go_simp
  refine (num_any (some ⟨b, o + 1, none⟩) (sl l 1 8) 8 (c - 1) w.heap.size w2 (sl_len l 1 8 (by have := HL.out; omega)) (by omega) (H2.out.cut 1 8 (by have := HL.out; omega))).mono ?_
  rintro e w3 ⟨rfl, hst⟩
  have H3 := H2
  rw [hst] at H3
  clear hst
  refine hK _ _ trivial (fun _ => ?_)
  clear hK K
  try simp only [Act.put, List.setIfInBounds_toArray, List.set_cons_zero, List.set_cons_succ]
  refine wpAnyH_take (i := 9) (oi := ⟨some 40, _, _, _, _, _⟩) (v := ?v9r8) rfl (by kernel_rfl) (by kernel_rfl) (by kernel_rfl) (fun _ _ _ h => h) (Or.inl ⟨by rfl, ?y9r8⟩) trivial ?r9r8
  case y9r8 =>
    rintro w' hSw
    go_simp
    try with_reducible rfl
  try simp only [Act.put, List.setIfInBounds_toArray, List.set_cons_zero, List.set_cons_succ]
  refine wpAnyH_ready (rs := [5]) (by kernel_rfl) (by simp) ?_
  refine AllReadyH.cons rfl (fun K hK => ?_) AllReadyH.nil
  go_simp
  refine (num_any (some ⟨b, o + 9, none⟩) (sl l 9 8) 8 (c - 9) w.heap.size w3 (sl_len l 9 8 (by have := HL.out; omega)) (by omega) (H3.out.cut 9 8 (by have := HL.out; omega))).mono ?_
  rintro e w4 ⟨rfl, hst⟩
  have H4 := H3
  rw [hst] at H4
  clear hst
  refine hK _ _ trivial (fun _ => ?_)
  clear hK K
  try simp only [Act.put, List.setIfInBounds_toArray, List.set_cons_zero, List.set_cons_succ]
  refine wpAnyH_ready (rs := [8]) (by kernel_rfl) (by simp) ?_
  refine AllReadyH.cons rfl (fun K hK => ?_) AllReadyH.nil
  go_simp
  refine (num_any (some ⟨b, o + 17, none⟩) (sl l 17 8) 8 (c - 17) w.heap.size w4 (sl_len l 17 8 (by have := HL.out; omega)) (by omega) (H4.out.cut 17 8 (by have := HL.out; omega))).mono ?_
  rintro e w5 ⟨rfl, hst⟩
  have H5 := H4
  rw [hst] at H5
  clear hst
  refine hK _ _ trivial (fun _ => ?_)
  clear hK K
  try simp only [Act.put, List.setIfInBounds_toArray, List.set_cons_zero, List.set_cons_succ]
  refine wpAnyH_ready (rs := [10]) (by kernel_rfl) (by simp) ?_
  refine AllReadyH.cons rfl (fun K hK => ?_) AllReadyH.nil
  have hcl : w5.cell? ⟨w.heap.size + 1, 0, none⟩ = some (.int .u64 0) := H5.out.r5.cell 0
  have hfr := H5.out.r5.frozen 0
  go_simp
  have H6 := Lib.hid (H5.out.set 0 (.int .u64 (num (sl l 1 8) : Int)))
  generalize w5.setCell ⟨w.heap.size + 1, 0, none⟩ (.int .u64 (num (sl l 1 8) : Int)) = w6 at H6 ⊢
  clear hcl hfr
  refine hK _ _ trivial (fun _ => ?_)
  clear hK K
  try simp only [Act.put, List.setIfInBounds_toArray, List.set_cons_zero, List.set_cons_succ]
  refine wpAnyH_take (i := 11) (oi := ⟨some 41, _, _, _, _, _⟩) (v := ?v11r8) rfl (by kernel_rfl) (by kernel_rfl) (by kernel_rfl) (fun _ _ _ h => h) (Or.inl ⟨by rfl, ?y11r8⟩) trivial ?r11r8
  case y11r8 =>
    rintro w' hSw
    go_simp
    try with_reducible rfl
  try simp only [Act.put, List.setIfInBounds_toArray, List.set_cons_zero, List.set_cons_succ]
  refine wpAnyH_ready (rs := [12]) (by kernel_rfl) (by simp) ?_
  refine AllReadyH.cons rfl (fun K hK => ?_) AllReadyH.nil
  have hcl : w6.cell? ⟨w.heap.size + 1, 2, none⟩ = some (.int .u64 0) := H6.out.r5.cell 2
  have hfr := H6.out.r5.frozen 2
  go_simp
  have H7 := Lib.hid (H6.out.set 2 (.int .u64 (num (sl l 9 8) : Int)))
  generalize w6.setCell ⟨w.heap.size + 1, 2, none⟩ (.int .u64 (num (sl l 9 8) : Int)) = w7 at H7 ⊢
  clear hcl hfr
  refine hK _ _ trivial (fun _ => ?_)
  clear hK K
  try simp only [Act.put, List.setIfInBounds_toArray, List.set_cons_zero, List.set_cons_succ]
  refine wpAnyH_take (i := 13) (oi := ⟨some 42, _, _, _, _, _⟩) (v := ?v13r8) rfl (by kernel_rfl) (by kernel_rfl) (by kernel_rfl) (fun _ _ _ h => h) (Or.inl ⟨by rfl, ?y13r8⟩) trivial ?r13r8
  case y13r8 =>
    rintro w' hSw
    go_simp
    try with_reducible rfl
  try simp only [Act.put, List.setIfInBounds_toArray, List.set_cons_zero, List.set_cons_succ]
  refine wpAnyH_ready (rs := [14]) (by kernel_rfl) (by simp) ?_
  refine AllReadyH.cons rfl (fun K hK => ?_) AllReadyH.nil
  have hcl : w7.cell? ⟨w.heap.size + 1, 3, none⟩ = some (.int .u64 0) := H7.out.r5.cell 3
  have hfr := H7.out.r5.frozen 3
  go_simp
  have H8 := Lib.hid (H7.out.set 3 (.int .u64 (num (sl l 17 8) : Int)))
  generalize w7.setCell ⟨w.heap.size + 1, 3, none⟩ (.int .u64 (num (sl l 17 8) : Int)) = w8 at H8 ⊢
  clear hcl hfr
  refine hK _ _ trivial (fun _ => ?_)
  clear hK K
  try simp only [Act.put, List.setIfInBounds_toArray, List.set_cons_zero, List.set_cons_succ]
  refine wpAnyH_done (by kernel_rfl) ?_ _
  have H9 := Lib.hid (show Dc w (some ⟨b, o, none⟩) l [.int .u64 (n8 l 1 : Int), .int .i64 (by_ l 0 : Int), .int .u64 (n8 l 9 : Int), .int .u64 (n8 l 17 : Int), .int .i64 0, .int .i64 0, .slice none 0 0, .slice none 0 0, .int .u64 0] w8 from H8.out)
  clear H1 H2 H3 H4 H5 H6 H7 H8
  have hx1w8 : w8.cell? ⟨w.heap.size + 1, 1, none⟩ = some (.int .i64 (by_ l 0 : Int)) := H9.out.r5.cell 1
  go_upto_region 13 with fail
  have hi25 : (25 : Int) < (n : Int) := by omega
  have hi26 : (26 : Int) < (n : Int) := by omega
  have hby25 := H9.out.byte 25 (by have := HL.out; omega)
  have hby26 := H9.out.byte 26 (by have := HL.out; omega)
  have hw25 : IntKind.i64.wrap (by_ l 25 : Int) = (by_ l 25 : Int) := by rw [IntKind.wrap_i64]; have := by_lt l 25; omega
  have hw26 : IntKind.i64.wrap (by_ l 26 : Int) = (by_ l 26 : Int) := by rw [IntKind.wrap_i64]; have := by_lt l 26; omega
  refine wp_region_held_drew (S := fun w' => w'.cell? ⟨b, o + 25, none⟩ = some (.int .u8 (by_ l 25 : Int)) ∧ w'.cell? ⟨b, o + 26, none⟩ = some (.int .u8 (by_ l 26 : Int))) (by kernel_rfl) ⟨hby25, hby26⟩ (fun hHeld => ?_)
  have H10 := Lib.hid H9.out.drew
  generalize w8.drew = w10 at *
  refine wpAnyH_take (i := 0) (oi := ⟨some 50, _, _, _, _, _⟩) (v := ?v0r13) rfl (by kernel_rfl) (by kernel_rfl) (by kernel_rfl) (fun _ _ _ h => h) (Or.inl ⟨by rfl, ?y0r13⟩) hHeld ?r0r13
  case y0r13 =>
    rintro w' hSw
    go_simp
    try with_reducible rfl
  try simp only [Act.put, List.setIfInBounds_toArray, List.set_cons_zero, List.set_cons_succ]
  refine wpAnyH_take (i := 1) (oi := ⟨some 51, _, _, _, _, _⟩) (v := ?v1r13) rfl (by kernel_rfl) (by kernel_rfl) (by kernel_rfl) (fun _ _ _ h => h) (Or.inl ⟨by rfl, ?y1r13⟩) hHeld ?r1r13
  case y1r13 =>
    rintro w' hSw
    go_simp
    try with_reducible rfl
  try simp only [Act.put, List.setIfInBounds_toArray, List.set_cons_zero, List.set_cons_succ]
  refine wpAnyH_take (i := 2) (oi := ⟨some 52, _, _, _, _, _⟩) (v := ?v2r13) rfl (by kernel_rfl) (by kernel_rfl) (by kernel_rfl) (fun _ _ _ h => h) (Or.inl ⟨by rfl, ?y2r13⟩) hHeld ?r2r13
  case y2r13 =>
    rintro w' hSw
    have c25 := hSw.1
    go_simp
    try with_reducible rfl
  try simp only [Act.put, List.setIfInBounds_toArray, List.set_cons_zero, List.set_cons_succ]
  refine wpAnyH_take (i := 3) (oi := ⟨some 53, _, _, _, _, _⟩) (v := ?v3r13) rfl (by kernel_rfl) (by kernel_rfl) (by kernel_rfl) (fun _ _ _ h => h) (Or.inl ⟨by rfl, ?y3r13⟩) hHeld ?r3r13
  case y3r13 =>
    rintro w' hSw
    go_simp
    try with_reducible rfl
  try simp only [Act.put, List.setIfInBounds_toArray, List.set_cons_zero, List.set_cons_succ]
  refine wpAnyH_take (i := 4) (oi := ⟨some 54, _, _, _, _, _⟩) (v := ?v4r13) rfl (by kernel_rfl) (by kernel_rfl) (by kernel_rfl) (fun _ _ _ h => h) (Or.inl ⟨by rfl, ?y4r13⟩) hHeld ?r4r13
  case y4r13 =>
    rintro w' hSw
    go_simp
    try with_reducible rfl
  try simp only [Act.put, List.setIfInBounds_toArray, List.set_cons_zero, List.set_cons_succ]
  refine wpAnyH_take (i := 5) (oi := ⟨some 55, _, _, _, _, _⟩) (v := ?v5r13) rfl (by kernel_rfl) (by kernel_rfl) (by kernel_rfl) (fun _ _ _ h => h) (Or.inl ⟨by rfl, ?y5r13⟩) hHeld ?r5r13
  case y5r13 =>
    rintro w' hSw
    go_simp
    try with_reducible rfl
  try simp only [Act.put, List.setIfInBounds_toArray, List.set_cons_zero, List.set_cons_succ]
  refine wpAnyH_take (i := 6) (oi := ⟨some 56, _, _, _, _, _⟩) (v := ?v6r13) rfl (by kernel_rfl) (by kernel_rfl) (by kernel_rfl) (fun _ _ _ h => h) (Or.inl ⟨by rfl, ?y6r13⟩) hHeld ?r6r13
  case y6r13 =>
    rintro w' hSw
    have c26 := hSw.2
    go_simp
    try with_reducible rfl
  try simp only [Act.put, List.setIfInBounds_toArray, List.set_cons_zero, List.set_cons_succ]
  refine wpAnyH_take (i := 7) (oi := ⟨some 57, _, _, _, _, _⟩) (v := ?v7r13) rfl (by kernel_rfl) (by kernel_rfl) (by kernel_rfl) (fun _ _ _ h => h) (Or.inl ⟨by rfl, ?y7r13⟩) hHeld ?r7r13
  case y7r13 =>
    rintro w' hSw
    go_simp
    try with_reducible rfl
  try simp only [Act.put, List.setIfInBounds_toArray, List.set_cons_zero, List.set_cons_succ]
  refine wpAnyH_take (i := 8) (oi := ⟨some 58, _, _, _, _, _⟩) (v := ?v8r13) rfl (by kernel_rfl) (by kernel_rfl) (by kernel_rfl) (fun _ _ _ h => h) (Or.inl ⟨by rfl, ?y8r13⟩) hHeld ?r8r13
  case y8r13 =>
    rintro w' hSw
    go_simp
    try with_reducible rfl
  try simp only [Act.put, List.setIfInBounds_toArray, List.set_cons_zero, List.set_cons_succ]
  refine wpAnyH_ready (rs := [9]) (by kernel_rfl) (by simp) ?_
  refine AllReadyH.cons rfl (fun K hK => ?_) AllReadyH.nil
  have hcl : w10.cell? ⟨w.heap.size + 1, 4, none⟩ = some (.int .i64 0) := H10.out.r5.cell 4
  have hfr := H10.out.r5.frozen 4
  go_simp
  have H11 := Lib.hid (H10.out.set 4 (.int .i64 (by_ l 25 : Int)))
  generalize w10.setCell ⟨w.heap.size + 1, 4, none⟩ (.int .i64 (by_ l 25 : Int)) = w11 at H11 ⊢
  clear hcl hfr
  have hS11 := (show _ ∧ _ from ⟨H11.out.byte 25 (by have := HL.out; omega), H11.out.byte 26 (by have := HL.out; omega)⟩)
  refine hK _ _ hS11 (fun _ => ?_)
  clear hK K
  try simp only [Act.put, List.setIfInBounds_toArray, List.set_cons_zero, List.set_cons_succ]
  refine wpAnyH_take (i := 10) (oi := ⟨some 59, _, _, _, _, _⟩) (v := ?v10r13) rfl (by kernel_rfl) (by kernel_rfl) (by kernel_rfl) (fun _ _ _ h => h) (Or.inl ⟨by rfl, ?y10r13⟩) hS11 ?r10r13
  case y10r13 =>
    rintro w' hSw
    go_simp
    try with_reducible rfl
  try simp only [Act.put, List.setIfInBounds_toArray, List.set_cons_zero, List.set_cons_succ]
  refine wpAnyH_ready (rs := [11]) (by kernel_rfl) (by simp) ?_
  refine AllReadyH.cons rfl (fun K hK => ?_) AllReadyH.nil
  have hcl : w11.cell? ⟨w.heap.size + 1, 5, none⟩ = some (.int .i64 0) := H11.out.r5.cell 5
  have hfr := H11.out.r5.frozen 5
  go_simp
  have H12 := Lib.hid (H11.out.set 5 (.int .i64 (by_ l 26 : Int)))
  generalize w11.setCell ⟨w.heap.size + 1, 5, none⟩ (.int .i64 (by_ l 26 : Int)) = w12 at H12 ⊢
  clear hcl hfr
  have hS12 := (show _ ∧ _ from ⟨H12.out.byte 25 (by have := HL.out; omega), H12.out.byte 26 (by have := HL.out; omega)⟩)
  refine hK _ _ hS12 (fun _ => ?_)
  clear hK K
  try simp only [Act.put, List.setIfInBounds_toArray, List.set_cons_zero, List.set_cons_succ]
  refine wpAnyH_done (by kernel_rfl) ?_ _
  have H13 := Lib.hid (show Dc w (some ⟨b, o, none⟩) l [.int .u64 (n8 l 1 : Int), .int .i64 (by_ l 0 : Int), .int .u64 (n8 l 9 : Int), .int .u64 (n8 l 17 : Int), .int .i64 (by_ l 25 : Int), .int .i64 (by_ l 26 : Int), .slice none 0 0, .slice none 0 0, .int .u64 0] w12 from H12.out)
  clear hS11 hS12 H9 H10 H11 H12 hby25 hby26
  have hx1w12 : w12.cell? ⟨w.heap.size + 1, 1, none⟩ = some (.int .i64 (by_ l 0 : Int)) := H13.out.r5.cell 1
  have hby27 := H13.out.byte 27 (by have := HL.out; omega)
  have hi27 : (27 : Int) < (n : Int) := by omega
  have hb27 : by_ l 27 < 256 := by_lt l 27
  have HI := Lib.hid (show (Try.prog.info? 34).map (·.size) = some (rcs zeroR zeroS).length from rec_info)
  have HLE := Lib.hid (show (rcs zeroR zeroS).length = (rcs zeroR zeroS).length from rfl)
  have HONE : Hid (∀ v ∈ (rcs zeroR zeroS), v.oneCell' = true) := rcs_one
  have HR2 := Lib.hid H13.out.r2
  go_wp2_with (with_reducible refine wpList_store_whole (op := ⟨none, _, _, _, _, _⟩) ?_ 34 (.tmp 2) (.tmp 76) ?_ w.heap.size (rcs zeroR zeroS) ?_ ?_ 34 (rcs zeroR zeroS) HR2.out HLE.out HONE.out HI.out ?_)
  all_goals try (first | rfl | (simp; done))
  intro w8 hr8 hg8
  have HRES := Lib.hid (run_loadVar_mid (P := Try.prog) w8 w.heap.size 0 34 (rcs zeroR zeroS) _ (Row.all hr8) Try.underlying34 rfl HI.out)
  have HB8 := Lib.hid (below_grown2 H13.out.hb hg8)
  clear hr8 hg8
  go_wp2
  refine bodyPost_ret (v := .tuple #[.agg (rcs zeroR zeroS).toArray, .int .i64 0, .int .i64 7]) (res_cell_tmp2 (p := 2) (q := 3) (q2 := 4) (ty := 34) rfl _ _ ⟨w.heap.size, 0, none⟩ _ _ _ rfl HRES.out rfl rfl) rfl ?_
  exact dec_err HZ.out (by decide) HB8.out


set_option maxHeartbeats 4000000 in
theorem dec_2new (b o n c : Nat) (l : List UInt8) (w : World) (hl : l.length = n) (hnc : n ≤ c) (hcm : c ≤ 140737488351232) (hb : Bs w w.heap.size (some ⟨b, o, none⟩) l) (hlt : b < w.heap.size) (hn : 0 < n) (hk : by_ l 0 = 2) (h28 : 28 ≤ n) (h2 : n < 28 + by_ l 27) :
    Calls Try.prog 44 #[.slice (some ⟨b, o, none⟩) n c] w (DecOut w (recM l 0)) := by
  have mixed : Try.prog.follows .mixedOrders = true := by kernel_rfl
  have HL := Lib.hid hl
  have hn0 : ((n : Int) == 0) = false := by simp; omega
  have hnn : 0 < (n : Int) := by omega
  have hc0 : w.cell? ⟨b, o, none⟩ = some (.int .u8 (by_ l 0 : Int)) := by
    obtain ⟨b', o', e, _, hc⟩ := hb (by omega)
    cases e
    have := hc 0 (by omega)
    simpa [by_] using this
  have hk256 : by_ l 0 < 256 := by_lt l 0
  have HZ := Lib.hid (recM_short l 27 true false true true (by omega) (by rw [hk]; rfl) (by decide) (by decide) (by decide) (by decide) (by decide) (two_new l (by omega) (by omega)))
  have hkb : 2 ≤ by_ l 0 ∧ by_ l 0 ≤ 2 := by omega
  clear hk
  have HBS := Lib.hid hb
  clear hl hb
  go_enter Try.func44, Try.ntmps44
  go_upto_region 4 with fail
  have h0 : Dc w (some ⟨b, o, none⟩) l [.int .u64 0, .int .i64 (by_ l 0 : Int), .int .u64 0, .int .u64 0, .int .i64 0, .int .i64 0, .slice none 0 0, .slice none 0 0, .int .u64 0] ((w.alloc (.cells #[.int .u64 0, .int .i64 0, .int .u64 0, .int .u64 0, .int .i64 0, .int .i64 0, .slice none 0 0, .slice none 0 0, .int .u64 0] 34)).alloc (.cells #[.int .u64 0, .int .i64 (by_ l 0 : Int), .int .u64 0, .int .u64 0, .int .i64 0, .int .i64 0, .slice none 0 0, .slice none 0 0, .int .u64 0] 34)) := ⟨(Row.new w _ _).alloc _, by
    have := Row.new (w.alloc (.cells #[.int .u64 0, .int .i64 0, .int .u64 0, .int .u64 0, .int .i64 0, .int .i64 0, .slice none 0 0, .slice none 0 0, .int .u64 0] 34)) 34 [.int .u64 0, .int .i64 (by_ l 0 : Int), .int .u64 0, .int .u64 0, .int .i64 0, .int .i64 0, .slice none 0 0, .slice none 0 0, .int .u64 0]
    rwa [World.size_alloc] at this, ((Below.refl _ _).alloc (Nat.le_refl _) _).alloc (by simp) _, (HBS.out.alloc (Nat.le_refl _) _).alloc (by simp) _, by simp⟩
  clear HBS
  generalize (w.alloc (.cells #[.int .u64 0, .int .i64 0, .int .u64 0, .int .u64 0, .int .i64 0, .int .i64 0, .slice none 0 0, .slice none 0 0, .int .u64 0] 34)).alloc (.cells #[.int .u64 0, .int .i64 (by_ l 0 : Int), .int .u64 0, .int .u64 0, .int .i64 0, .int .i64 0, .slice none 0 0, .slice none 0 0, .int .u64 0] 34) = w1 at *
  have H1 := Lib.hid h0
  clear h0 hc0
  have hx1 : w1.cell? ⟨w.heap.size + 1, 1, none⟩ = some (.int .i64 (by_ l 0 : Int)) := H1.out.r5.cell 1
  have hd1 : decide ((by_ l 0 : Int) < 1) = false := by simp; omega
  have hd2 : decide (4 < (by_ l 0 : Int)) = false := by simp; omega
  have hd3 : decide ((n : Int) < 25) = false := by simp; omega
  have hd4 : decide ((by_ l 0 : Int) ≤ 2) = true := by simp; omega
  have hd5 : decide ((n : Int) < 28) = false := by simp; omega
  have hd6 : ((by_ l 0 : Int) == 1) = false := by simp; omega

  go_upto_region 8 with fail
  have hc9 : (9 : Int) ≤ (c : Int) := by omega
  have hc17 : (17 : Int) ≤ (c : Int) := by omega
  have hc25 : (25 : Int) ≤ (c : Int) := by omega
  have hne1 : ¬ c = 1 := by omega
  have hne9 : ¬ c = 9 := by omega
  have hne17 : ¬ c = 17 := by omega
  refine wp_region_held_drew (S := fun _ => True) (by kernel_rfl) trivial (fun hHeld => ?_)
  have H2 := Lib.hid H1.out.drew
  generalize w1.drew = w2 at *
  refine wpAnyH_take (i := 0) (oi := ⟨some 31, _, _, _, _, _⟩) (v := ?v0r8) rfl (by kernel_rfl) (by kernel_rfl) (by kernel_rfl) (fun _ _ _ h => h) (Or.inl ⟨by rfl, ?y0r8⟩) trivial ?r0r8
  case y0r8 =>
    rintro w' hSw
    go_simp
    try with_reducible rfl
  try simp only [Act.put, List.setIfInBounds_toArray, List.set_cons_zero, List.set_cons_succ]
  refine wpAnyH_take (i := 1) (oi := ⟨some 32, _, _, _, _, _⟩) (v := ?v1r8) rfl (by kernel_rfl) (by kernel_rfl) (by kernel_rfl) (fun _ _ _ h => h) (Or.inl ⟨by rfl, ?y1r8⟩) trivial ?r1r8
  case y1r8 =>
    rintro w' hSw
    go_simp
    try with_reducible rfl
  try simp only [Act.put, List.setIfInBounds_toArray, List.set_cons_zero, List.set_cons_succ]
  refine wpAnyH_take (i := 3) (oi := ⟨some 34, _, _, _, _, _⟩) (v := ?v3r8) rfl (by kernel_rfl) (by kernel_rfl) (by kernel_rfl) (fun _ _ _ h => h) (Or.inl ⟨by rfl, ?y3r8⟩) trivial ?r3r8
  case y3r8 =>
    rintro w' hSw
    go_simp
    try with_reducible rfl
  try simp only [Act.put, List.setIfInBounds_toArray, List.set_cons_zero, List.set_cons_succ]
  refine wpAnyH_take (i := 4) (oi := ⟨some 35, _, _, _, _, _⟩) (v := ?v4r8) rfl (by kernel_rfl) (by kernel_rfl) (by kernel_rfl) (fun _ _ _ h => h) (Or.inl ⟨by rfl, ?y4r8⟩) trivial ?r4r8
  case y4r8 =>
    rintro w' hSw
    go_simp
    try with_reducible rfl
  try simp only [Act.put, List.setIfInBounds_toArray, List.set_cons_zero, List.set_cons_succ]
  refine wpAnyH_take (i := 6) (oi := ⟨some 37, _, _, _, _, _⟩) (v := ?v6r8) rfl (by kernel_rfl) (by kernel_rfl) (by kernel_rfl) (fun _ _ _ h => h) (Or.inl ⟨by rfl, ?y6r8⟩) trivial ?r6r8
  case y6r8 =>
    rintro w' hSw
    go_simp
    try with_reducible rfl
  try simp only [Act.put, List.setIfInBounds_toArray, List.set_cons_zero, List.set_cons_succ]
  refine wpAnyH_take (i := 7) (oi := ⟨some 38, _, _, _, _, _⟩) (v := ?v7r8) rfl (by kernel_rfl) (by kernel_rfl) (by kernel_rfl) (fun _ _ _ h => h) (Or.inl ⟨by rfl, ?y7r8⟩) trivial ?r7r8
  case y7r8 =>
    rintro w' hSw
    go_simp
    try with_reducible rfl
  try simp only [Act.put, List.setIfInBounds_toArray, List.set_cons_zero, List.set_cons_succ]
  refine wpAnyH_ready (rs := [2]) (by kernel_rfl) (by simp) ?_
  refine AllReadyH.cons rfl (fun K hK => ?_) AllReadyH.nil
  go_simp
  refine (num_any (some ⟨b, o + 1, none⟩) (sl l 1 8) 8 (c - 1) w.heap.size w2 (sl_len l 1 8 (by have := HL.out; omega)) (by omega) (H2.out.cut 1 8 (by have := HL.out; omega))).mono ?_
  rintro e w3 ⟨rfl, hst⟩
  have H3 := H2
  rw [hst] at H3
  clear hst
  refine hK _ _ trivial (fun _ => ?_)
  clear hK K
  try simp only [Act.put, List.setIfInBounds_toArray, List.set_cons_zero, List.set_cons_succ]
  refine wpAnyH_take (i := 9) (oi := ⟨some 40, _, _, _, _, _⟩) (v := ?v9r8) rfl (by kernel_rfl) (by kernel_rfl) (by kernel_rfl) (fun _ _ _ h => h) (Or.inl ⟨by rfl, ?y9r8⟩) trivial ?r9r8
  case y9r8 =>
    rintro w' hSw
    go_simp
    try with_reducible rfl
  try simp only [Act.put, List.setIfInBounds_toArray, List.set_cons_zero, List.set_cons_succ]
  refine wpAnyH_ready (rs := [5]) (by kernel_rfl) (by simp) ?_
  refine AllReadyH.cons rfl (fun K hK => ?_) AllReadyH.nil
  go_simp
  refine (num_any (some ⟨b, o + 9, none⟩) (sl l 9 8) 8 (c - 9) w.heap.size w3 (sl_len l 9 8 (by have := HL.out; omega)) (by omega) (H3.out.cut 9 8 (by have := HL.out; omega))).mono ?_
  rintro e w4 ⟨rfl, hst⟩
  have H4 := H3
  rw [hst] at H4
  clear hst
  refine hK _ _ trivial (fun _ => ?_)
  clear hK K
  try simp only [Act.put, List.setIfInBounds_toArray, List.set_cons_zero, List.set_cons_succ]
  refine wpAnyH_ready (rs := [8]) (by kernel_rfl) (by simp) ?_
  refine AllReadyH.cons rfl (fun K hK => ?_) AllReadyH.nil
  go_simp
  refine (num_any (some ⟨b, o + 17, none⟩) (sl l 17 8) 8 (c - 17) w.heap.size w4 (sl_len l 17 8 (by have := HL.out; omega)) (by omega) (H4.out.cut 17 8 (by have := HL.out; omega))).mono ?_
  rintro e w5 ⟨rfl, hst⟩
  have H5 := H4
  rw [hst] at H5
  clear hst
  refine hK _ _ trivial (fun _ => ?_)
  clear hK K
  try simp only [Act.put, List.setIfInBounds_toArray, List.set_cons_zero, List.set_cons_succ]
  refine wpAnyH_ready (rs := [10]) (by kernel_rfl) (by simp) ?_
  refine AllReadyH.cons rfl (fun K hK => ?_) AllReadyH.nil
  have hcl : w5.cell? ⟨w.heap.size + 1, 0, none⟩ = some (.int .u64 0) := H5.out.r5.cell 0
  have hfr := H5.out.r5.frozen 0
  go_simp
  have H6 := Lib.hid (H5.out.set 0 (.int .u64 (num (sl l 1 8) : Int)))
  generalize w5.setCell ⟨w.heap.size + 1, 0, none⟩ (.int .u64 (num (sl l 1 8) : Int)) = w6 at H6 ⊢
  clear hcl hfr
  refine hK _ _ trivial (fun _ => ?_)
  clear hK K
  try simp only [Act.put, List.setIfInBounds_toArray, List.set_cons_zero, List.set_cons_succ]
  refine wpAnyH_take (i := 11) (oi := ⟨some 41, _, _, _, _, _⟩) (v := ?v11r8) rfl (by kernel_rfl) (by kernel_rfl) (by kernel_rfl) (fun _ _ _ h => h) (Or.inl ⟨by rfl, ?y11r8⟩) trivial ?r11r8
  case y11r8 =>
    rintro w' hSw
    go_simp
    try with_reducible rfl
  try simp only [Act.put, List.setIfInBounds_toArray, List.set_cons_zero, List.set_cons_succ]
  refine wpAnyH_ready (rs := [12]) (by kernel_rfl) (by simp) ?_
  refine AllReadyH.cons rfl (fun K hK => ?_) AllReadyH.nil
  have hcl : w6.cell? ⟨w.heap.size + 1, 2, none⟩ = some (.int .u64 0) := H6.out.r5.cell 2
  have hfr := H6.out.r5.frozen 2
  go_simp
  have H7 := Lib.hid (H6.out.set 2 (.int .u64 (num (sl l 9 8) : Int)))
  generalize w6.setCell ⟨w.heap.size + 1, 2, none⟩ (.int .u64 (num (sl l 9 8) : Int)) = w7 at H7 ⊢
  clear hcl hfr
  refine hK _ _ trivial (fun _ => ?_)
  clear hK K
  try simp only [Act.put, List.setIfInBounds_toArray, List.set_cons_zero, List.set_cons_succ]
  refine wpAnyH_take (i := 13) (oi := ⟨some 42, _, _, _, _, _⟩) (v := ?v13r8) rfl (by kernel_rfl) (by kernel_rfl) (by kernel_rfl) (fun _ _ _ h => h) (Or.inl ⟨by rfl, ?y13r8⟩) trivial ?r13r8
  case y13r8 =>
    rintro w' hSw
    go_simp
    try with_reducible rfl
  try simp only [Act.put, List.setIfInBounds_toArray, List.set_cons_zero, List.set_cons_succ]
  refine wpAnyH_ready (rs := [14]) (by kernel_rfl) (by simp) ?_
  refine AllReadyH.cons rfl (fun K hK => ?_) AllReadyH.nil
  have hcl : w7.cell? ⟨w.heap.size + 1, 3, none⟩ = some (.int .u64 0) := H7.out.r5.cell 3
  have hfr := H7.out.r5.frozen 3
  go_simp
  have H8 := Lib.hid (H7.out.set 3 (.int .u64 (num (sl l 17 8) : Int)))
  generalize w7.setCell ⟨w.heap.size + 1, 3, none⟩ (.int .u64 (num (sl l 17 8) : Int)) = w8 at H8 ⊢
  clear hcl hfr
  refine hK _ _ trivial (fun _ => ?_)
  clear hK K
  try simp only [Act.put, List.setIfInBounds_toArray, List.set_cons_zero, List.set_cons_succ]
  refine wpAnyH_done (by kernel_rfl) ?_ _
  have H9 := Lib.hid (show Dc w (some ⟨b, o, none⟩) l [.int .u64 (n8 l 1 : Int), .int .i64 (by_ l 0 : Int), .int .u64 (n8 l 9 : Int), .int .u64 (n8 l 17 : Int), .int .i64 0, .int .i64 0, .slice none 0 0, .slice none 0 0, .int .u64 0] w8 from H8.out)
  clear H1 H2 H3 H4 H5 H6 H7 H8
  have hx1w8 : w8.cell? ⟨w.heap.size + 1, 1, none⟩ = some (.int .i64 (by_ l 0 : Int)) := H9.out.r5.cell 1
  go_upto_region 13 with fail
  have hi25 : (25 : Int) < (n : Int) := by omega
  have hi26 : (26 : Int) < (n : Int) := by omega
  have hby25 := H9.out.byte 25 (by have := HL.out; omega)
  have hby26 := H9.out.byte 26 (by have := HL.out; omega)
  have hw25 : IntKind.i64.wrap (by_ l 25 : Int) = (by_ l 25 : Int) := by rw [IntKind.wrap_i64]; have := by_lt l 25; omega
  have hw26 : IntKind.i64.wrap (by_ l 26 : Int) = (by_ l 26 : Int) := by rw [IntKind.wrap_i64]; have := by_lt l 26; omega
  refine wp_region_held_drew (S := fun w' => w'.cell? ⟨b, o + 25, none⟩ = some (.int .u8 (by_ l 25 : Int)) ∧ w'.cell? ⟨b, o + 26, none⟩ = some (.int .u8 (by_ l 26 : Int))) (by kernel_rfl) ⟨hby25, hby26⟩ (fun hHeld => ?_)
  have H10 := Lib.hid H9.out.drew
  generalize w8.drew = w10 at *
  refine wpAnyH_take (i := 0) (oi := ⟨some 50, _, _, _, _, _⟩) (v := ?v0r13) rfl (by kernel_rfl) (by kernel_rfl) (by kernel_rfl) (fun _ _ _ h => h) (Or.inl ⟨by rfl, ?y0r13⟩) hHeld ?r0r13
  case y0r13 =>
    rintro w' hSw
    go_simp
    try with_reducible rfl
  try simp only [Act.put, List.setIfInBounds_toArray, List.set_cons_zero, List.set_cons_succ]
  refine wpAnyH_take (i := 1) (oi := ⟨some 51, _, _, _, _, _⟩) (v := ?v1r13) rfl (by kernel_rfl) (by kernel_rfl) (by kernel_rfl) (fun _ _ _ h => h) (Or.inl ⟨by rfl, ?y1r13⟩) hHeld ?r1r13
  case y1r13 =>
    rintro w' hSw
    go_simp
    try with_reducible rfl
  try simp only [Act.put, List.setIfInBounds_toArray, List.set_cons_zero, List.set_cons_succ]
  refine wpAnyH_take (i := 2) (oi := ⟨some 52, _, _, _, _, _⟩) (v := ?v2r13) rfl (by kernel_rfl) (by kernel_rfl) (by kernel_rfl) (fun _ _ _ h => h) (Or.inl ⟨by rfl, ?y2r13⟩) hHeld ?r2r13
  case y2r13 =>
    rintro w' hSw
    have c25 := hSw.1
    go_simp
    try with_reducible rfl
  try simp only [Act.put, List.setIfInBounds_toArray, List.set_cons_zero, List.set_cons_succ]
  refine wpAnyH_take (i := 3) (oi := ⟨some 53, _, _, _, _, _⟩) (v := ?v3r13) rfl (by kernel_rfl) (by kernel_rfl) (by kernel_rfl) (fun _ _ _ h => h) (Or.inl ⟨by rfl, ?y3r13⟩) hHeld ?r3r13
  case y3r13 =>
    rintro w' hSw
    go_simp
    try with_reducible rfl
  try simp only [Act.put, List.setIfInBounds_toArray, List.set_cons_zero, List.set_cons_succ]
  refine wpAnyH_take (i := 4) (oi := ⟨some 54, _, _, _, _, _⟩) (v := ?v4r13) rfl (by kernel_rfl) (by kernel_rfl) (by kernel_rfl) (fun _ _ _ h => h) (Or.inl ⟨by rfl, ?y4r13⟩) hHeld ?r4r13
  case y4r13 =>
    rintro w' hSw
    go_simp
    try with_reducible rfl
  try simp only [Act.put, List.setIfInBounds_toArray, List.set_cons_zero, List.set_cons_succ]
  refine wpAnyH_take (i := 5) (oi := ⟨some 55, _, _, _, _, _⟩) (v := ?v5r13) rfl (by kernel_rfl) (by kernel_rfl) (by kernel_rfl) (fun _ _ _ h => h) (Or.inl ⟨by rfl, ?y5r13⟩) hHeld ?r5r13
  case y5r13 =>
    rintro w' hSw
    go_simp
    try with_reducible rfl
  try simp only [Act.put, List.setIfInBounds_toArray, List.set_cons_zero, List.set_cons_succ]
  refine wpAnyH_take (i := 6) (oi := ⟨some 56, _, _, _, _, _⟩) (v := ?v6r13) rfl (by kernel_rfl) (by kernel_rfl) (by kernel_rfl) (fun _ _ _ h => h) (Or.inl ⟨by rfl, ?y6r13⟩) hHeld ?r6r13
  case y6r13 =>
    rintro w' hSw
    have c26 := hSw.2
    go_simp
    try with_reducible rfl
  try simp only [Act.put, List.setIfInBounds_toArray, List.set_cons_zero, List.set_cons_succ]
  refine wpAnyH_take (i := 7) (oi := ⟨some 57, _, _, _, _, _⟩) (v := ?v7r13) rfl (by kernel_rfl) (by kernel_rfl) (by kernel_rfl) (fun _ _ _ h => h) (Or.inl ⟨by rfl, ?y7r13⟩) hHeld ?r7r13
  case y7r13 =>
    rintro w' hSw
    go_simp
    try with_reducible rfl
  try simp only [Act.put, List.setIfInBounds_toArray, List.set_cons_zero, List.set_cons_succ]
  refine wpAnyH_take (i := 8) (oi := ⟨some 58, _, _, _, _, _⟩) (v := ?v8r13) rfl (by kernel_rfl) (by kernel_rfl) (by kernel_rfl) (fun _ _ _ h => h) (Or.inl ⟨by rfl, ?y8r13⟩) hHeld ?r8r13
  case y8r13 =>
    rintro w' hSw
    go_simp
    try with_reducible rfl
  try simp only [Act.put, List.setIfInBounds_toArray, List.set_cons_zero, List.set_cons_succ]
  refine wpAnyH_ready (rs := [9]) (by kernel_rfl) (by simp) ?_
  refine AllReadyH.cons rfl (fun K hK => ?_) AllReadyH.nil
  have hcl : w10.cell? ⟨w.heap.size + 1, 4, none⟩ = some (.int .i64 0) := H10.out.r5.cell 4
  have hfr := H10.out.r5.frozen 4
  go_simp
  have H11 := Lib.hid (H10.out.set 4 (.int .i64 (by_ l 25 : Int)))
  generalize w10.setCell ⟨w.heap.size + 1, 4, none⟩ (.int .i64 (by_ l 25 : Int)) = w11 at H11 ⊢
  clear hcl hfr
  have hS11 := (show _ ∧ _ from ⟨H11.out.byte 25 (by have := HL.out; omega), H11.out.byte 26 (by have := HL.out; omega)⟩)
  refine hK _ _ hS11 (fun _ => ?_)
  clear hK K
  try simp only [Act.put, List.setIfInBounds_toArray, List.set_cons_zero, List.set_cons_succ]
  refine wpAnyH_take (i := 10) (oi := ⟨some 59, _, _, _, _, _⟩) (v := ?v10r13) rfl (by kernel_rfl) (by kernel_rfl) (by kernel_rfl) (fun _ _ _ h => h) (Or.inl ⟨by rfl, ?y10r13⟩) hS11 ?r10r13
  case y10r13 =>
    rintro w' hSw
    go_simp
    try with_reducible rfl
  try simp only [Act.put, List.setIfInBounds_toArray, List.set_cons_zero, List.set_cons_succ]
  refine wpAnyH_ready (rs := [11]) (by kernel_rfl) (by simp) ?_
  refine AllReadyH.cons rfl (fun K hK => ?_) AllReadyH.nil
  have hcl : w11.cell? ⟨w.heap.size + 1, 5, none⟩ = some (.int .i64 0) := H11.out.r5.cell 5
  have hfr := H11.out.r5.frozen 5
  go_simp
  have H12 := Lib.hid (H11.out.set 5 (.int .i64 (by_ l 26 : Int)))
  generalize w11.setCell ⟨w.heap.size + 1, 5, none⟩ (.int .i64 (by_ l 26 : Int)) = w12 at H12 ⊢
  clear hcl hfr
  have hS12 := (show _ ∧ _ from ⟨H12.out.byte 25 (by have := HL.out; omega), H12.out.byte 26 (by have := HL.out; omega)⟩)
  refine hK _ _ hS12 (fun _ => ?_)
  clear hK K
  try simp only [Act.put, List.setIfInBounds_toArray, List.set_cons_zero, List.set_cons_succ]
  refine wpAnyH_done (by kernel_rfl) ?_ _
  have H13 := Lib.hid (show Dc w (some ⟨b, o, none⟩) l [.int .u64 (n8 l 1 : Int), .int .i64 (by_ l 0 : Int), .int .u64 (n8 l 9 : Int), .int .u64 (n8 l 17 : Int), .int .i64 (by_ l 25 : Int), .int .i64 (by_ l 26 : Int), .slice none 0 0, .slice none 0 0, .int .u64 0] w12 from H12.out)
  clear hS11 hS12 H9 H10 H11 H12 hby25 hby26
  have hx1w12 : w12.cell? ⟨w.heap.size + 1, 1, none⟩ = some (.int .i64 (by_ l 0 : Int)) := H13.out.r5.cell 1
  have hby27 := H13.out.byte 27 (by have := HL.out; omega)
  have hi27 : (27 : Int) < (n : Int) := by omega
  have hb27 : by_ l 27 < 256 := by_lt l 27
  have HI := Lib.hid (show (Try.prog.info? 34).map (·.size) = some (rcs zeroR zeroS).length from rec_info)
  have HLE := Lib.hid (show (rcs zeroR zeroS).length = (rcs zeroR zeroS).length from rfl)
  have HONE : Hid (∀ v ∈ (rcs zeroR zeroS), v.oneCell' = true) := rcs_one
  have HR2 := Lib.hid H13.out.r2
  go_wp2_with (with_reducible refine wpList_store_whole (op := ⟨none, _, _, _, _, _⟩) ?_ 34 (.tmp 2) (.tmp 102) ?_ w.heap.size (rcs zeroR zeroS) ?_ ?_ 34 (rcs zeroR zeroS) HR2.out HLE.out HONE.out HI.out ?_)
  all_goals try (first | rfl | (simp; done))
  intro w8 hr8 hg8
  have HRES := Lib.hid (run_loadVar_mid (P := Try.prog) w8 w.heap.size 0 34 (rcs zeroR zeroS) _ (Row.all hr8) Try.underlying34 rfl HI.out)
  have HB8 := Lib.hid (below_grown2 H13.out.hb hg8)
  clear hr8 hg8
  go_wp2
  refine bodyPost_ret (v := .tuple #[.agg (rcs zeroR zeroS).toArray, .int .i64 0, .int .i64 7]) (res_cell_tmp2 (p := 2) (q := 3) (q2 := 4) (ty := 34) rfl _ _ ⟨w.heap.size, 0, none⟩ _ _ _ rfl HRES.out rfl rfl) rfl ?_
  exact dec_err HZ.out (by decide) HB8.out


set_option maxHeartbeats 4000000 in
theorem dec_1new (b o n c : Nat) (l : List UInt8) (w : World) (hl : l.length = n) (hnc : n ≤ c) (hcm : c ≤ 140737488351232) (hb : Bs w w.heap.size (some ⟨b, o, none⟩) l) (hlt : b < w.heap.size) (hn : 0 < n) (hk : by_ l 0 = 1) (h28 : 29 + by_ l 27 ≤ n) (h2 : n < 29 + by_ l 27 + by_ l (28 + by_ l 27)) :
    Calls Try.prog 44 #[.slice (some ⟨b, o, none⟩) n c] w (DecOut w (recM l 0)) := by
  have mixed : Try.prog.follows .mixedOrders = true := by kernel_rfl
  have HL := Lib.hid hl
  have hn0 : ((n : Int) == 0) = false := by simp; omega
  have hnn : 0 < (n : Int) := by omega
  have hc0 : w.cell? ⟨b, o, none⟩ = some (.int .u8 (by_ l 0 : Int)) := by
    obtain ⟨b', o', e, _, hc⟩ := hb (by omega)
    cases e
    have := hc 0 (by omega)
    simpa [by_] using this
  have hk256 : by_ l 0 < 256 := by_lt l 0
  have HZ := Lib.hid (recM_short l 15 true true true false (by omega) (by rw [hk]; rfl) (by decide) (by decide) (by decide) (by decide) (by decide) (one_new l (by omega) (by omega)))
  have hkb : 1 ≤ by_ l 0 ∧ by_ l 0 ≤ 1 := by omega
  clear hk
  have HBS := Lib.hid hb
  clear hl hb
  go_enter Try.func44, Try.ntmps44
  go_upto_region 4 with fail
  have h0 : Dc w (some ⟨b, o, none⟩) l [.int .u64 0, .int .i64 (by_ l 0 : Int), .int .u64 0, .int .u64 0, .int .i64 0, .int .i64 0, .slice none 0 0, .slice none 0 0, .int .u64 0] ((w.alloc (.cells #[.int .u64 0, .int .i64 0, .int .u64 0, .int .u64 0, .int .i64 0, .int .i64 0, .slice none 0 0, .slice none 0 0, .int .u64 0] 34)).alloc (.cells #[.int .u64 0, .int .i64 (by_ l 0 : Int), .int .u64 0, .int .u64 0, .int .i64 0, .int .i64 0, .slice none 0 0, .slice none 0 0, .int .u64 0] 34)) := ⟨(Row.new w _ _).alloc _, by
    have := Row.new (w.alloc (.cells #[.int .u64 0, .int .i64 0, .int .u64 0, .int .u64 0, .int .i64 0, .int .i64 0, .slice none 0 0, .slice none 0 0, .int .u64 0] 34)) 34 [.int .u64 0, .int .i64 (by_ l 0 : Int), .int .u64 0, .int .u64 0, .int .i64 0, .int .i64 0, .slice none 0 0, .slice none 0 0, .int .u64 0]
    rwa [World.size_alloc] at this, ((Below.refl _ _).alloc (Nat.le_refl _) _).alloc (by simp) _, (HBS.out.alloc (Nat.le_refl _) _).alloc (by simp) _, by simp⟩
  clear HBS
  generalize (w.alloc (.cells #[.int .u64 0, .int .i64 0, .int .u64 0, .int .u64 0, .int .i64 0, .int .i64 0, .slice none 0 0, .slice none 0 0, .int .u64 0] 34)).alloc (.cells #[.int .u64 0, .int .i64 (by_ l 0 : Int), .int .u64 0, .int .u64 0, .int .i64 0, .int .i64 0, .slice none 0 0, .slice none 0 0, .int .u64 0] 34) = w1 at *
  have H1 := Lib.hid h0
  clear h0 hc0
  have hx1 : w1.cell? ⟨w.heap.size + 1, 1, none⟩ = some (.int .i64 (by_ l 0 : Int)) := H1.out.r5.cell 1
  have hd1 : decide ((by_ l 0 : Int) < 1) = false := by simp; omega
  have hd2 : decide (4 < (by_ l 0 : Int)) = false := by simp; omega
  have hd3 : decide ((n : Int) < 25) = false := by simp; omega
  have hd4 : decide ((by_ l 0 : Int) ≤ 2) = true := by simp; omega
  have hd5 : decide ((n : Int) < 28) = false := by simp; omega
  have hd6 : ((by_ l 0 : Int) == 1) = true := by simp; omega

  go_upto_region 8 with fail
  have hc9 : (9 : Int) ≤ (c : Int) := by omega
  have hc17 : (17 : Int) ≤ (c : Int) := by omega
  have hc25 : (25 : Int) ≤ (c : Int) := by omega
  have hne1 : ¬ c = 1 := by omega
  have hne9 : ¬ c = 9 := by omega
  have hne17 : ¬ c = 17 := by omega
  refine wp_region_held_drew (S := fun _ => True) (by kernel_rfl) trivial (fun hHeld => ?_)
  have H2 := Lib.hid H1.out.drew
  generalize w1.drew = w2 at *
  refine wpAnyH_take (i := 0) (oi := ⟨some 31, _, _, _, _, _⟩) (v := ?v0r8) rfl (by kernel_rfl) (by kernel_rfl) (by kernel_rfl) (fun _ _ _ h => h) (Or.inl ⟨by rfl, ?y0r8⟩) trivial ?r0r8
  case y0r8 =>
    rintro w' hSw
    go_simp
    try with_reducible rfl
  try simp only [Act.put, List.setIfInBounds_toArray, List.set_cons_zero, List.set_cons_succ]
  refine wpAnyH_take (i := 1) (oi := ⟨some 32, _, _, _, _, _⟩) (v := ?v1r8) rfl (by kernel_rfl) (by kernel_rfl) (by kernel_rfl) (fun _ _ _ h => h) (Or.inl ⟨by rfl, ?y1r8⟩) trivial ?r1r8
  case y1r8 =>
    rintro w' hSw
    go_simp
    try with_reducible rfl
  try simp only [Act.put, List.setIfInBounds_toArray, List.set_cons_zero, List.set_cons_succ]
  refine wpAnyH_take (i := 3) (oi := ⟨some 34, _, _, _, _, _⟩) (v := ?v3r8) rfl (by kernel_rfl) (by kernel_rfl) (by kernel_rfl) (fun _ _ _ h => h) (Or.inl ⟨by rfl, ?y3r8⟩) trivial ?r3r8
  case y3r8 =>
    rintro w' hSw
    go_simp
    try with_reducible rfl
  try simp only [Act.put, List.setIfInBounds_toArray, List.set_cons_zero, List.set_cons_succ]
  refine wpAnyH_take (i := 4) (oi := ⟨some 35, _, _, _, _, _⟩) (v := ?v4r8) rfl (by kernel_rfl) (by kernel_rfl) (by kernel_rfl) (fun _ _ _ h => h) (Or.inl ⟨by rfl, ?y4r8⟩) trivial ?r4r8
  case y4r8 =>
    rintro w' hSw
    go_simp
    try with_reducible rfl
  try simp only [Act.put, List.setIfInBounds_toArray, List.set_cons_zero, List.set_cons_succ]
  refine wpAnyH_take (i := 6) (oi := ⟨some 37, _, _, _, _, _⟩) (v := ?v6r8) rfl (by kernel_rfl) (by kernel_rfl) (by kernel_rfl) (fun _ _ _ h => h) (Or.inl ⟨by rfl, ?y6r8⟩) trivial ?r6r8
  case y6r8 =>
    rintro w' hSw
    go_simp
    try with_reducible rfl
  try simp only [Act.put, List.setIfInBounds_toArray, List.set_cons_zero, List.set_cons_succ]
  refine wpAnyH_take (i := 7) (oi := ⟨some 38, _, _, _, _, _⟩) (v := ?v7r8) rfl (by kernel_rfl) (by kernel_rfl) (by kernel_rfl) (fun _ _ _ h => h) (Or.inl ⟨by rfl, ?y7r8⟩) trivial ?r7r8
  case y7r8 =>
    rintro w' hSw
    go_simp
    try with_reducible rfl
  try simp only [Act.put, List.setIfInBounds_toArray, List.set_cons_zero, List.set_cons_succ]
  refine wpAnyH_ready (rs := [2]) (by kernel_rfl) (by simp) ?_
  refine AllReadyH.cons rfl (fun K hK => ?_) AllReadyH.nil
  go_simp
  refine (num_any (some ⟨b, o + 1, none⟩) (sl l 1 8) 8 (c - 1) w.heap.size w2 (sl_len l 1 8 (by have := HL.out; omega)) (by omega) (H2.out.cut 1 8 (by have := HL.out; omega))).mono ?_
  rintro e w3 ⟨rfl, hst⟩
  have H3 := H2
  rw [hst] at H3
  clear hst
  refine hK _ _ trivial (fun _ => ?_)
  clear hK K
  try simp only [Act.put, List.setIfInBounds_toArray, List.set_cons_zero, List.set_cons_succ]
  refine wpAnyH_take (i := 9) (oi := ⟨some 40, _, _, _, _, _⟩) (v := ?v9r8) rfl (by kernel_rfl) (by kernel_rfl) (by kernel_rfl) (fun _ _ _ h => h) (Or.inl ⟨by rfl, ?y9r8⟩) trivial ?r9r8
  case y9r8 =>
    rintro w' hSw
    go_simp
    try with_reducible rfl
  try simp only [Act.put, List.setIfInBounds_toArray, List.set_cons_zero, List.set_cons_succ]
  refine wpAnyH_ready (rs := [5]) (by kernel_rfl) (by simp) ?_
  refine AllReadyH.cons rfl (fun K hK => ?_) AllReadyH.nil
  go_simp
  refine (num_any (some ⟨b, o + 9, none⟩) (sl l 9 8) 8 (c - 9) w.heap.size w3 (sl_len l 9 8 (by have := HL.out; omega)) (by omega) (H3.out.cut 9 8 (by have := HL.out; omega))).mono ?_
  rintro e w4 ⟨rfl, hst⟩
  have H4 := H3
  rw [hst] at H4
  clear hst
  refine hK _ _ trivial (fun _ => ?_)
  clear hK K
  try simp only [Act.put, List.setIfInBounds_toArray, List.set_cons_zero, List.set_cons_succ]
  refine wpAnyH_ready (rs := [8]) (by kernel_rfl) (by simp) ?_
  refine AllReadyH.cons rfl (fun K hK => ?_) AllReadyH.nil
  go_simp
  refine (num_any (some ⟨b, o + 17, none⟩) (sl l 17 8) 8 (c - 17) w.heap.size w4 (sl_len l 17 8 (by have := HL.out; omega)) (by omega) (H4.out.cut 17 8 (by have := HL.out; omega))).mono ?_
  rintro e w5 ⟨rfl, hst⟩
  have H5 := H4
  rw [hst] at H5
  clear hst
  refine hK _ _ trivial (fun _ => ?_)
  clear hK K
  try simp only [Act.put, List.setIfInBounds_toArray, List.set_cons_zero, List.set_cons_succ]
  refine wpAnyH_ready (rs := [10]) (by kernel_rfl) (by simp) ?_
  refine AllReadyH.cons rfl (fun K hK => ?_) AllReadyH.nil
  have hcl : w5.cell? ⟨w.heap.size + 1, 0, none⟩ = some (.int .u64 0) := H5.out.r5.cell 0
  have hfr := H5.out.r5.frozen 0
  go_simp
  have H6 := Lib.hid (H5.out.set 0 (.int .u64 (num (sl l 1 8) : Int)))
  generalize w5.setCell ⟨w.heap.size + 1, 0, none⟩ (.int .u64 (num (sl l 1 8) : Int)) = w6 at H6 ⊢
  clear hcl hfr
  refine hK _ _ trivial (fun _ => ?_)
  clear hK K
  try simp only [Act.put, List.setIfInBounds_toArray, List.set_cons_zero, List.set_cons_succ]
  refine wpAnyH_take (i := 11) (oi := ⟨some 41, _, _, _, _, _⟩) (v := ?v11r8) rfl (by kernel_rfl) (by kernel_rfl) (by kernel_rfl) (fun _ _ _ h => h) (Or.inl ⟨by rfl, ?y11r8⟩) trivial ?r11r8
  case y11r8 =>
    rintro w' hSw
    go_simp
    try with_reducible rfl
  try simp only [Act.put, List.setIfInBounds_toArray, List.set_cons_zero, List.set_cons_succ]
  refine wpAnyH_ready (rs := [12]) (by kernel_rfl) (by simp) ?_
  refine AllReadyH.cons rfl (fun K hK => ?_) AllReadyH.nil
  have hcl : w6.cell? ⟨w.heap.size + 1, 2, none⟩ = some (.int .u64 0) := H6.out.r5.cell 2
  have hfr := H6.out.r5.frozen 2
  go_simp
  have H7 := Lib.hid (H6.out.set 2 (.int .u64 (num (sl l 9 8) : Int)))
  generalize w6.setCell ⟨w.heap.size + 1, 2, none⟩ (.int .u64 (num (sl l 9 8) : Int)) = w7 at H7 ⊢
  clear hcl hfr
  refine hK _ _ trivial (fun _ => ?_)
  clear hK K
  try simp only [Act.put, List.setIfInBounds_toArray, List.set_cons_zero, List.set_cons_succ]
  refine wpAnyH_take (i := 13) (oi := ⟨some 42, _, _, _, _, _⟩) (v := ?v13r8) rfl (by kernel_rfl) (by kernel_rfl) (by kernel_rfl) (fun _ _ _ h => h) (Or.inl ⟨by rfl, ?y13r8⟩) trivial ?r13r8
  case y13r8 =>
    rintro w' hSw
    go_simp
    try with_reducible rfl
  try simp only [Act.put, List.setIfInBounds_toArray, List.set_cons_zero, List.set_cons_succ]
  refine wpAnyH_ready (rs := [14]) (by kernel_rfl) (by simp) ?_
  refine AllReadyH.cons rfl (fun K hK => ?_) AllReadyH.nil
  have hcl : w7.cell? ⟨w.heap.size + 1, 3, none⟩ = some (.int .u64 0) := H7.out.r5.cell 3
  have hfr := H7.out.r5.frozen 3
  go_simp
  have H8 := Lib.hid (H7.out.set 3 (.int .u64 (num (sl l 17 8) : Int)))
  generalize w7.setCell ⟨w.heap.size + 1, 3, none⟩ (.int .u64 (num (sl l 17 8) : Int)) = w8 at H8 ⊢
  clear hcl hfr
  refine hK _ _ trivial (fun _ => ?_)
  clear hK K
  try simp only [Act.put, List.setIfInBounds_toArray, List.set_cons_zero, List.set_cons_succ]
  refine wpAnyH_done (by kernel_rfl) ?_ _
  have H9 := Lib.hid (show Dc w (some ⟨b, o, none⟩) l [.int .u64 (n8 l 1 : Int), .int .i64 (by_ l 0 : Int), .int .u64 (n8 l 9 : Int), .int .u64 (n8 l 17 : Int), .int .i64 0, .int .i64 0, .slice none 0 0, .slice none 0 0, .int .u64 0] w8 from H8.out)
  clear H1 H2 H3 H4 H5 H6 H7 H8
  have hx1w8 : w8.cell? ⟨w.heap.size + 1, 1, none⟩ = some (.int .i64 (by_ l 0 : Int)) := H9.out.r5.cell 1
  go_upto_region 13 with fail
  have hi25 : (25 : Int) < (n : Int) := by omega
  have hi26 : (26 : Int) < (n : Int) := by omega
  have hby25 := H9.out.byte 25 (by have := HL.out; omega)
  have hby26 := H9.out.byte 26 (by have := HL.out; omega)
  have hw25 : IntKind.i64.wrap (by_ l 25 : Int) = (by_ l 25 : Int) := by rw [IntKind.wrap_i64]; have := by_lt l 25; omega
  have hw26 : IntKind.i64.wrap (by_ l 26 : Int) = (by_ l 26 : Int) := by rw [IntKind.wrap_i64]; have := by_lt l 26; omega
  refine wp_region_held_drew (S := fun w' => w'.cell? ⟨b, o + 25, none⟩ = some (.int .u8 (by_ l 25 : Int)) ∧ w'.cell? ⟨b, o + 26, none⟩ = some (.int .u8 (by_ l 26 : Int))) (by kernel_rfl) ⟨hby25, hby26⟩ (fun hHeld => ?_)
  have H10 := Lib.hid H9.out.drew
  generalize w8.drew = w10 at *
  refine wpAnyH_take (i := 0) (oi := ⟨some 50, _, _, _, _, _⟩) (v := ?v0r13) rfl (by kernel_rfl) (by kernel_rfl) (by kernel_rfl) (fun _ _ _ h => h) (Or.inl ⟨by rfl, ?y0r13⟩) hHeld ?r0r13
  case y0r13 =>
    rintro w' hSw
    go_simp
    try with_reducible rfl
  try simp only [Act.put, List.setIfInBounds_toArray, List.set_cons_zero, List.set_cons_succ]
  refine wpAnyH_take (i := 1) (oi := ⟨some 51, _, _, _, _, _⟩) (v := ?v1r13) rfl (by kernel_rfl) (by kernel_rfl) (by kernel_rfl) (fun _ _ _ h => h) (Or.inl ⟨by rfl, ?y1r13⟩) hHeld ?r1r13
  case y1r13 =>
    rintro w' hSw
    go_simp
    try with_reducible rfl
  try simp only [Act.put, List.setIfInBounds_toArray, List.set_cons_zero, List.set_cons_succ]
  refine wpAnyH_take (i := 2) (oi := ⟨some 52, _, _, _, _, _⟩) (v := ?v2r13) rfl (by kernel_rfl) (by kernel_rfl) (by kernel_rfl) (fun _ _ _ h => h) (Or.inl ⟨by rfl, ?y2r13⟩) hHeld ?r2r13
  case y2r13 =>
    rintro w' hSw
    have c25 := hSw.1
    go_simp
    try with_reducible rfl
  try simp only [Act.put, List.setIfInBounds_toArray, List.set_cons_zero, List.set_cons_succ]
  refine wpAnyH_take (i := 3) (oi := ⟨some 53, _, _, _, _, _⟩) (v := ?v3r13) rfl (by kernel_rfl) (by kernel_rfl) (by kernel_rfl) (fun _ _ _ h => h) (Or.inl ⟨by rfl, ?y3r13⟩) hHeld ?r3r13
  case y3r13 =>
    rintro w' hSw
    go_simp
    try with_reducible rfl
  try simp only [Act.put, List.setIfInBounds_toArray, List.set_cons_zero, List.set_cons_succ]
  refine wpAnyH_take (i := 4) (oi := ⟨some 54, _, _, _, _, _⟩) (v := ?v4r13) rfl (by kernel_rfl) (by kernel_rfl) (by kernel_rfl) (fun _ _ _ h => h) (Or.inl ⟨by rfl, ?y4r13⟩) hHeld ?r4r13
  case y4r13 =>
    rintro w' hSw
    go_simp
    try with_reducible rfl
  try simp only [Act.put, List.setIfInBounds_toArray, List.set_cons_zero, List.set_cons_succ]
  refine wpAnyH_take (i := 5) (oi := ⟨some 55, _, _, _, _, _⟩) (v := ?v5r13) rfl (by kernel_rfl) (by kernel_rfl) (by kernel_rfl) (fun _ _ _ h => h) (Or.inl ⟨by rfl, ?y5r13⟩) hHeld ?r5r13
  case y5r13 =>
    rintro w' hSw
    go_simp
    try with_reducible rfl
  try simp only [Act.put, List.setIfInBounds_toArray, List.set_cons_zero, List.set_cons_succ]
  refine wpAnyH_take (i := 6) (oi := ⟨some 56, _, _, _, _, _⟩) (v := ?v6r13) rfl (by kernel_rfl) (by kernel_rfl) (by kernel_rfl) (fun _ _ _ h => h) (Or.inl ⟨by rfl, ?y6r13⟩) hHeld ?r6r13
  case y6r13 =>
    rintro w' hSw
    have c26 := hSw.2
    go_simp
    try with_reducible rfl
  try simp only [Act.put, List.setIfInBounds_toArray, List.set_cons_zero, List.set_cons_succ]
  refine wpAnyH_take (i := 7) (oi := ⟨some 57, _, _, _, _, _⟩) (v := ?v7r13) rfl (by kernel_rfl) (by kernel_rfl) (by kernel_rfl) (fun _ _ _ h => h) (Or.inl ⟨by rfl, ?y7r13⟩) hHeld ?r7r13
  case y7r13 =>
    rintro w' hSw
    go_simp
    try with_reducible rfl
  try simp only [Act.put, List.setIfInBounds_toArray, List.set_cons_zero, List.set_cons_succ]
  refine wpAnyH_take (i := 8) (oi := ⟨some 58, _, _, _, _, _⟩) (v := ?v8r13) rfl (by kernel_rfl) (by kernel_rfl) (by kernel_rfl) (fun _ _ _ h => h) (Or.inl ⟨by rfl, ?y8r13⟩) hHeld ?r8r13
  case y8r13 =>
    rintro w' hSw
    go_simp
    try with_reducible rfl
  try simp only [Act.put, List.setIfInBounds_toArray, List.set_cons_zero, List.set_cons_succ]
  refine wpAnyH_ready (rs := [9]) (by kernel_rfl) (by simp) ?_
  refine AllReadyH.cons rfl (fun K hK => ?_) AllReadyH.nil
  have hcl : w10.cell? ⟨w.heap.size + 1, 4, none⟩ = some (.int .i64 0) := H10.out.r5.cell 4
  have hfr := H10.out.r5.frozen 4
  go_simp
  have H11 := Lib.hid (H10.out.set 4 (.int .i64 (by_ l 25 : Int)))
  generalize w10.setCell ⟨w.heap.size + 1, 4, none⟩ (.int .i64 (by_ l 25 : Int)) = w11 at H11 ⊢
  clear hcl hfr
  have hS11 := (show _ ∧ _ from ⟨H11.out.byte 25 (by have := HL.out; omega), H11.out.byte 26 (by have := HL.out; omega)⟩)
  refine hK _ _ hS11 (fun _ => ?_)
  clear hK K
  try simp only [Act.put, List.setIfInBounds_toArray, List.set_cons_zero, List.set_cons_succ]
  refine wpAnyH_take (i := 10) (oi := ⟨some 59, _, _, _, _, _⟩) (v := ?v10r13) rfl (by kernel_rfl) (by kernel_rfl) (by kernel_rfl) (fun _ _ _ h => h) (Or.inl ⟨by rfl, ?y10r13⟩) hS11 ?r10r13
  case y10r13 =>
    rintro w' hSw
    go_simp
    try with_reducible rfl
  try simp only [Act.put, List.setIfInBounds_toArray, List.set_cons_zero, List.set_cons_succ]
  refine wpAnyH_ready (rs := [11]) (by kernel_rfl) (by simp) ?_
  refine AllReadyH.cons rfl (fun K hK => ?_) AllReadyH.nil
  have hcl : w11.cell? ⟨w.heap.size + 1, 5, none⟩ = some (.int .i64 0) := H11.out.r5.cell 5
  have hfr := H11.out.r5.frozen 5
  go_simp
  have H12 := Lib.hid (H11.out.set 5 (.int .i64 (by_ l 26 : Int)))
  generalize w11.setCell ⟨w.heap.size + 1, 5, none⟩ (.int .i64 (by_ l 26 : Int)) = w12 at H12 ⊢
  clear hcl hfr
  have hS12 := (show _ ∧ _ from ⟨H12.out.byte 25 (by have := HL.out; omega), H12.out.byte 26 (by have := HL.out; omega)⟩)
  refine hK _ _ hS12 (fun _ => ?_)
  clear hK K
  try simp only [Act.put, List.setIfInBounds_toArray, List.set_cons_zero, List.set_cons_succ]
  refine wpAnyH_done (by kernel_rfl) ?_ _
  have H13 := Lib.hid (show Dc w (some ⟨b, o, none⟩) l [.int .u64 (n8 l 1 : Int), .int .i64 (by_ l 0 : Int), .int .u64 (n8 l 9 : Int), .int .u64 (n8 l 17 : Int), .int .i64 (by_ l 25 : Int), .int .i64 (by_ l 26 : Int), .slice none 0 0, .slice none 0 0, .int .u64 0] w12 from H12.out)
  clear hS11 hS12 H9 H10 H11 H12 hby25 hby26
  have hx1w12 : w12.cell? ⟨w.heap.size + 1, 1, none⟩ = some (.int .i64 (by_ l 0 : Int)) := H13.out.r5.cell 1
  have hby27 := H13.out.byte 27 (by have := HL.out; omega)
  have hi27 : (27 : Int) < (n : Int) := by omega
  have hb27 : by_ l 27 < 256 := by_lt l 27
  have hxi : w12.cell? ⟨w.heap.size + 1, 6, none⟩ = some (.slice none 0 0) := H13.out.r5.cell 6
  have hfi := H13.out.r5.frozen 6
  have hne28 : ¬ c = 28 := by omega
  have hle28 : (28 : Int) + (by_ l 27 : Int) ≤ (c : Int) := by omega
  go_upto_region 20 with fail
  have H14x := Lib.hid (H13.out.set 6 (.slice (some ⟨b, o + 28, none⟩) (by_ l 27) (c - 28)))
  generalize w12.setCell ⟨w.heap.size + 1, 6, none⟩ (.slice (some ⟨b, o + 28, none⟩) (by_ l 27) (c - 28)) = w13 at H14x ⊢
  have H14 := Lib.hid (show Dc w (some ⟨b, o, none⟩) l [.int .u64 (n8 l 1 : Int), .int .i64 (by_ l 0 : Int), .int .u64 (n8 l 9 : Int), .int .u64 (n8 l 17 : Int), .int .i64 (by_ l 25 : Int), .int .i64 (by_ l 26 : Int), .slice (some ⟨b, o + 28, none⟩) (by_ l 27) (c - 28), .slice none 0 0, .int .u64 0] w13 from H14x.out)
  clear H14x hxi hfi
  have hx1w13 : w13.cell? ⟨w.heap.size + 1, 1, none⟩ = some (.int .i64 (by_ l 0 : Int)) := H14.out.r5.cell 1
  have hb28 : by_ l (28 + by_ l 27) < 256 := by_lt l _
  have hby28 := H14.out.byte (28 + by_ l 27) (by have := HL.out; omega)
  have hi28 : (28 : Int) + (by_ l 27 : Int) < (n : Int) := by omega
  have HI := Lib.hid (show (Try.prog.info? 34).map (·.size) = some (rcs zeroR zeroS).length from rec_info)
  have HLE := Lib.hid (show (rcs zeroR zeroS).length = (rcs zeroR zeroS).length from rfl)
  have HONE : Hid (∀ v ∈ (rcs zeroR zeroS), v.oneCell' = true) := rcs_one
  have HR2 := Lib.hid H14.out.r2
  go_wp2_with (with_reducible refine wpList_store_whole (op := ⟨none, _, _, _, _, _⟩) ?_ 34 (.tmp 2) (.tmp 102) ?_ w.heap.size (rcs zeroR zeroS) ?_ ?_ 34 (rcs zeroR zeroS) HR2.out HLE.out HONE.out HI.out ?_)
  all_goals try (first | rfl | (simp; done))
  intro w8 hr8 hg8
  have HRES := Lib.hid (run_loadVar_mid (P := Try.prog) w8 w.heap.size 0 34 (rcs zeroR zeroS) _ (Row.all hr8) Try.underlying34 rfl HI.out)
  have HB8 := Lib.hid (below_grown2 H14.out.hb hg8)
  clear hr8 hg8
  go_wp2
  refine bodyPost_ret (v := .tuple #[.agg (rcs zeroR zeroS).toArray, .int .i64 0, .int .i64 7]) (res_cell_tmp2 (p := 2) (q := 3) (q2 := 4) (ty := 34) rfl _ _ ⟨w.heap.size, 0, none⟩ _ _ _ rfl HRES.out rfl rfl) rfl ?_
  exact dec_err HZ.out (by decide) HB8.out


set_option maxHeartbeats 4000000 in
theorem dec_1whole (b o n c : Nat) (l : List UInt8) (w : World) (hl : l.length = n) (hnc : n ≤ c) (hcm : c ≤ 140737488351232) (hb : Bs w w.heap.size (some ⟨b, o, none⟩) l) (hlt : b < w.heap.size) (hn : 0 < n) (hk : by_ l 0 = 1) (h28 : 29 + by_ l 27 + by_ l (28 + by_ l 27) ≤ n) :
    Calls Try.prog 44 #[.slice (some ⟨b, o, none⟩) n c] w (DecOut w (recM l 0)) := by
  have mixed : Try.prog.follows .mixedOrders = true := by kernel_rfl
  have HL := Lib.hid hl
  have hn0 : ((n : Int) == 0) = false := by simp; omega
  have hnn : 0 < (n : Int) := by omega
  have hc0 : w.cell? ⟨b, o, none⟩ = some (.int .u8 (by_ l 0 : Int)) := by
    obtain ⟨b', o', e, _, hc⟩ := hb (by omega)
    cases e
    have := hc 0 (by omega)
    simpa [by_] using this
  have hk256 : by_ l 0 < 256 := by_lt l 0
  have HZ := Lib.hid (whole1 l hk (by omega))
  have hkb : 1 ≤ by_ l 0 ∧ by_ l 0 ≤ 1 := by omega
  clear hk
  have HBS := Lib.hid hb
  clear hl hb
  go_enter Try.func44, Try.ntmps44
  go_upto_region 4 with fail
  have h0 : Dc w (some ⟨b, o, none⟩) l [.int .u64 0, .int .i64 (by_ l 0 : Int), .int .u64 0, .int .u64 0, .int .i64 0, .int .i64 0, .slice none 0 0, .slice none 0 0, .int .u64 0] ((w.alloc (.cells #[.int .u64 0, .int .i64 0, .int .u64 0, .int .u64 0, .int .i64 0, .int .i64 0, .slice none 0 0, .slice none 0 0, .int .u64 0] 34)).alloc (.cells #[.int .u64 0, .int .i64 (by_ l 0 : Int), .int .u64 0, .int .u64 0, .int .i64 0, .int .i64 0, .slice none 0 0, .slice none 0 0, .int .u64 0] 34)) := ⟨(Row.new w _ _).alloc _, by
    have := Row.new (w.alloc (.cells #[.int .u64 0, .int .i64 0, .int .u64 0, .int .u64 0, .int .i64 0, .int .i64 0, .slice none 0 0, .slice none 0 0, .int .u64 0] 34)) 34 [.int .u64 0, .int .i64 (by_ l 0 : Int), .int .u64 0, .int .u64 0, .int .i64 0, .int .i64 0, .slice none 0 0, .slice none 0 0, .int .u64 0]
    rwa [World.size_alloc] at this, ((Below.refl _ _).alloc (Nat.le_refl _) _).alloc (by simp) _, (HBS.out.alloc (Nat.le_refl _) _).alloc (by simp) _, by simp⟩
  clear HBS
  generalize (w.alloc (.cells #[.int .u64 0, .int .i64 0, .int .u64 0, .int .u64 0, .int .i64 0, .int .i64 0, .slice none 0 0, .slice none 0 0, .int .u64 0] 34)).alloc (.cells #[.int .u64 0, .int .i64 (by_ l 0 : Int), .int .u64 0, .int .u64 0, .int .i64 0, .int .i64 0, .slice none 0 0, .slice none 0 0, .int .u64 0] 34) = w1 at *
  have H1 := Lib.hid h0
  clear h0 hc0
  have hx1 : w1.cell? ⟨w.heap.size + 1, 1, none⟩ = some (.int .i64 (by_ l 0 : Int)) := H1.out.r5.cell 1
  have hd1 : decide ((by_ l 0 : Int) < 1) = false := by simp; omega
  have hd2 : decide (4 < (by_ l 0 : Int)) = false := by simp; omega
  have hd3 : decide ((n : Int) < 25) = false := by simp; omega
  have hd4 : decide ((by_ l 0 : Int) ≤ 2) = true := by simp; omega
  have hd5 : decide ((n : Int) < 28) = false := by simp; omega
  have hd6 : ((by_ l 0 : Int) == 1) = true := by simp; omega

  go_upto_region 8 with fail
  have hc9 : (9 : Int) ≤ (c : Int) := by omega
  have hc17 : (17 : Int) ≤ (c : Int) := by omega
  have hc25 : (25 : Int) ≤ (c : Int) := by omega
  have hne1 : ¬ c = 1 := by omega
  have hne9 : ¬ c = 9 := by omega
  have hne17 : ¬ c = 17 := by omega
  refine wp_region_held_drew (S := fun _ => True) (by kernel_rfl) trivial (fun hHeld => ?_)
  have H2 := Lib.hid H1.out.drew
  generalize w1.drew = w2 at *
  refine wpAnyH_take (i := 0) (oi := ⟨some 31, _, _, _, _, _⟩) (v := ?v0r8) rfl (by kernel_rfl) (by kernel_rfl) (by kernel_rfl) (fun _ _ _ h => h) (Or.inl ⟨by rfl, ?y0r8⟩) trivial ?r0r8
  case y0r8 =>
    rintro w' hSw
    go_simp
    try with_reducible rfl
  try simp only [Act.put, List.setIfInBounds_toArray, List.set_cons_zero, List.set_cons_succ]
  refine wpAnyH_take (i := 1) (oi := ⟨some 32, _, _, _, _, _⟩) (v := ?v1r8) rfl (by kernel_rfl) (by kernel_rfl) (by kernel_rfl) (fun _ _ _ h => h) (Or.inl ⟨by rfl, ?y1r8⟩) trivial ?r1r8
  case y1r8 =>
    rintro w' hSw
    go_simp
    try with_reducible rfl
  try simp only [Act.put, List.setIfInBounds_toArray, List.set_cons_zero, List.set_cons_succ]
  refine wpAnyH_take (i := 3) (oi := ⟨some 34, _, _, _, _, _⟩) (v := ?v3r8) rfl (by kernel_rfl) (by kernel_rfl) (by kernel_rfl) (fun _ _ _ h => h) (Or.inl ⟨by rfl, ?y3r8⟩) trivial ?r3r8
  case y3r8 =>
    rintro w' hSw
    go_simp
    try with_reducible rfl
  try simp only [Act.put, List.setIfInBounds_toArray, List.set_cons_zero, List.set_cons_succ]
  refine wpAnyH_take (i := 4) (oi := ⟨some 35, _, _, _, _, _⟩) (v := ?v4r8) rfl (by kernel_rfl) (by kernel_rfl) (by kernel_rfl) (fun _ _ _ h => h) (Or.inl ⟨by rfl, ?y4r8⟩) trivial ?r4r8
  case y4r8 =>
    rintro w' hSw
    go_simp
    try with_reducible rfl
  try simp only [Act.put, List.setIfInBounds_toArray, List.set_cons_zero, List.set_cons_succ]
  refine wpAnyH_take (i := 6) (oi := ⟨some 37, _, _, _, _, _⟩) (v := ?v6r8) rfl (by kernel_rfl) (by kernel_rfl) (by kernel_rfl) (fun _ _ _ h => h) (Or.inl ⟨by rfl, ?y6r8⟩) trivial ?r6r8
  case y6r8 =>
    rintro w' hSw
    go_simp
    try with_reducible rfl
  try simp only [Act.put, List.setIfInBounds_toArray, List.set_cons_zero, List.set_cons_succ]
  refine wpAnyH_take (i := 7) (oi := ⟨some 38, _, _, _, _, _⟩) (v := ?v7r8) rfl (by kernel_rfl) (by kernel_rfl) (by kernel_rfl) (fun _ _ _ h => h) (Or.inl ⟨by rfl, ?y7r8⟩) trivial ?r7r8
  case y7r8 =>
    rintro w' hSw
    go_simp
    try with_reducible rfl
  try simp only [Act.put, List.setIfInBounds_toArray, List.set_cons_zero, List.set_cons_succ]
  refine wpAnyH_ready (rs := [2]) (by kernel_rfl) (by simp) ?_
  refine AllReadyH.cons rfl (fun K hK => ?_) AllReadyH.nil
  go_simp
  refine (num_any (some ⟨b, o + 1, none⟩) (sl l 1 8) 8 (c - 1) w.heap.size w2 (sl_len l 1 8 (by have := HL.out; omega)) (by omega) (H2.out.cut 1 8 (by have := HL.out; omega))).mono ?_
  rintro e w3 ⟨rfl, hst⟩
  have H3 := H2
  rw [hst] at H3
  clear hst
  refine hK _ _ trivial (fun _ => ?_)
  clear hK K
  try simp only [Act.put, List.setIfInBounds_toArray, List.set_cons_zero, List.set_cons_succ]
  refine wpAnyH_take (i := 9) (oi := ⟨some 40, _, _, _, _, _⟩) (v := ?v9r8) rfl (by kernel_rfl) (by kernel_rfl) (by kernel_rfl) (fun _ _ _ h => h) (Or.inl ⟨by rfl, ?y9r8⟩) trivial ?r9r8
  case y9r8 =>
    rintro w' hSw
    go_simp
    try with_reducible rfl
  try simp only [Act.put, List.setIfInBounds_toArray, List.set_cons_zero, List.set_cons_succ]
  refine wpAnyH_ready (rs := [5]) (by kernel_rfl) (by simp) ?_
  refine AllReadyH.cons rfl (fun K hK => ?_) AllReadyH.nil
  go_simp
  refine (num_any (some ⟨b, o + 9, none⟩) (sl l 9 8) 8 (c - 9) w.heap.size w3 (sl_len l 9 8 (by have := HL.out; omega)) (by omega) (H3.out.cut 9 8 (by have := HL.out; omega))).mono ?_
  rintro e w4 ⟨rfl, hst⟩
  have H4 := H3
  rw [hst] at H4
  clear hst
  refine hK _ _ trivial (fun _ => ?_)
  clear hK K
  try simp only [Act.put, List.setIfInBounds_toArray, List.set_cons_zero, List.set_cons_succ]
  refine wpAnyH_ready (rs := [8]) (by kernel_rfl) (by simp) ?_
  refine AllReadyH.cons rfl (fun K hK => ?_) AllReadyH.nil
  go_simp
  refine (num_any (some ⟨b, o + 17, none⟩) (sl l 17 8) 8 (c - 17) w.heap.size w4 (sl_len l 17 8 (by have := HL.out; omega)) (by omega) (H4.out.cut 17 8 (by have := HL.out; omega))).mono ?_
  rintro e w5 ⟨rfl, hst⟩
  have H5 := H4
  rw [hst] at H5
  clear hst
  refine hK _ _ trivial (fun _ => ?_)
  clear hK K
  try simp only [Act.put, List.setIfInBounds_toArray, List.set_cons_zero, List.set_cons_succ]
  refine wpAnyH_ready (rs := [10]) (by kernel_rfl) (by simp) ?_
  refine AllReadyH.cons rfl (fun K hK => ?_) AllReadyH.nil
  have hcl : w5.cell? ⟨w.heap.size + 1, 0, none⟩ = some (.int .u64 0) := H5.out.r5.cell 0
  have hfr := H5.out.r5.frozen 0
  go_simp
  have H6 := Lib.hid (H5.out.set 0 (.int .u64 (num (sl l 1 8) : Int)))
  generalize w5.setCell ⟨w.heap.size + 1, 0, none⟩ (.int .u64 (num (sl l 1 8) : Int)) = w6 at H6 ⊢
  clear hcl hfr
  refine hK _ _ trivial (fun _ => ?_)
  clear hK K
  try simp only [Act.put, List.setIfInBounds_toArray, List.set_cons_zero, List.set_cons_succ]
  refine wpAnyH_take (i := 11) (oi := ⟨some 41, _, _, _, _, _⟩) (v := ?v11r8) rfl (by kernel_rfl) (by kernel_rfl) (by kernel_rfl) (fun _ _ _ h => h) (Or.inl ⟨by rfl, ?y11r8⟩) trivial ?r11r8
  case y11r8 =>
    rintro w' hSw
    go_simp
    try with_reducible rfl
  try simp only [Act.put, List.setIfInBounds_toArray, List.set_cons_zero, List.set_cons_succ]
  refine wpAnyH_ready (rs := [12]) (by kernel_rfl) (by simp) ?_
  refine AllReadyH.cons rfl (fun K hK => ?_) AllReadyH.nil
  have hcl : w6.cell? ⟨w.heap.size + 1, 2, none⟩ = some (.int .u64 0) := H6.out.r5.cell 2
  have hfr := H6.out.r5.frozen 2
  go_simp
  have H7 := Lib.hid (H6.out.set 2 (.int .u64 (num (sl l 9 8) : Int)))
  generalize w6.setCell ⟨w.heap.size + 1, 2, none⟩ (.int .u64 (num (sl l 9 8) : Int)) = w7 at H7 ⊢
  clear hcl hfr
  refine hK _ _ trivial (fun _ => ?_)
  clear hK K
  try simp only [Act.put, List.setIfInBounds_toArray, List.set_cons_zero, List.set_cons_succ]
  refine wpAnyH_take (i := 13) (oi := ⟨some 42, _, _, _, _, _⟩) (v := ?v13r8) rfl (by kernel_rfl) (by kernel_rfl) (by kernel_rfl) (fun _ _ _ h => h) (Or.inl ⟨by rfl, ?y13r8⟩) trivial ?r13r8
  case y13r8 =>
    rintro w' hSw
    go_simp
    try with_reducible rfl
  try simp only [Act.put, List.setIfInBounds_toArray, List.set_cons_zero, List.set_cons_succ]
  refine wpAnyH_ready (rs := [14]) (by kernel_rfl) (by simp) ?_
  refine AllReadyH.cons rfl (fun K hK => ?_) AllReadyH.nil
  have hcl : w7.cell? ⟨w.heap.size + 1, 3, none⟩ = some (.int .u64 0) := H7.out.r5.cell 3
  have hfr := H7.out.r5.frozen 3
  go_simp
  have H8 := Lib.hid (H7.out.set 3 (.int .u64 (num (sl l 17 8) : Int)))
  generalize w7.setCell ⟨w.heap.size + 1, 3, none⟩ (.int .u64 (num (sl l 17 8) : Int)) = w8 at H8 ⊢
  clear hcl hfr
  refine hK _ _ trivial (fun _ => ?_)
  clear hK K
  try simp only [Act.put, List.setIfInBounds_toArray, List.set_cons_zero, List.set_cons_succ]
  refine wpAnyH_done (by kernel_rfl) ?_ _
  have H9 := Lib.hid (show Dc w (some ⟨b, o, none⟩) l [.int .u64 (n8 l 1 : Int), .int .i64 (by_ l 0 : Int), .int .u64 (n8 l 9 : Int), .int .u64 (n8 l 17 : Int), .int .i64 0, .int .i64 0, .slice none 0 0, .slice none 0 0, .int .u64 0] w8 from H8.out)
  clear H1 H2 H3 H4 H5 H6 H7 H8
  have hx1w8 : w8.cell? ⟨w.heap.size + 1, 1, none⟩ = some (.int .i64 (by_ l 0 : Int)) := H9.out.r5.cell 1
  go_upto_region 13 with fail
  have hi25 : (25 : Int) < (n : Int) := by omega
  have hi26 : (26 : Int) < (n : Int) := by omega
  have hby25 := H9.out.byte 25 (by have := HL.out; omega)
  have hby26 := H9.out.byte 26 (by have := HL.out; omega)
  have hw25 : IntKind.i64.wrap (by_ l 25 : Int) = (by_ l 25 : Int) := by rw [IntKind.wrap_i64]; have := by_lt l 25; omega
  have hw26 : IntKind.i64.wrap (by_ l 26 : Int) = (by_ l 26 : Int) := by rw [IntKind.wrap_i64]; have := by_lt l 26; omega
  refine wp_region_held_drew (S := fun w' => w'.cell? ⟨b, o + 25, none⟩ = some (.int .u8 (by_ l 25 : Int)) ∧ w'.cell? ⟨b, o + 26, none⟩ = some (.int .u8 (by_ l 26 : Int))) (by kernel_rfl) ⟨hby25, hby26⟩ (fun hHeld => ?_)
  have H10 := Lib.hid H9.out.drew
  generalize w8.drew = w10 at *
  refine wpAnyH_take (i := 0) (oi := ⟨some 50, _, _, _, _, _⟩) (v := ?v0r13) rfl (by kernel_rfl) (by kernel_rfl) (by kernel_rfl) (fun _ _ _ h => h) (Or.inl ⟨by rfl, ?y0r13⟩) hHeld ?r0r13
  case y0r13 =>
    rintro w' hSw
    go_simp
    try with_reducible rfl
  try simp only [Act.put, List.setIfInBounds_toArray, List.set_cons_zero, List.set_cons_succ]
  refine wpAnyH_take (i := 1) (oi := ⟨some 51, _, _, _, _, _⟩) (v := ?v1r13) rfl (by kernel_rfl) (by kernel_rfl) (by kernel_rfl) (fun _ _ _ h => h) (Or.inl ⟨by rfl, ?y1r13⟩) hHeld ?r1r13
  case y1r13 =>
    rintro w' hSw
    go_simp
    try with_reducible rfl
  try simp only [Act.put, List.setIfInBounds_toArray, List.set_cons_zero, List.set_cons_succ]
  refine wpAnyH_take (i := 2) (oi := ⟨some 52, _, _, _, _, _⟩) (v := ?v2r13) rfl (by kernel_rfl) (by kernel_rfl) (by kernel_rfl) (fun _ _ _ h => h) (Or.inl ⟨by rfl, ?y2r13⟩) hHeld ?r2r13
  case y2r13 =>
    rintro w' hSw
    have c25 := hSw.1
    go_simp
    try with_reducible rfl
  try simp only [Act.put, List.setIfInBounds_toArray, List.set_cons_zero, List.set_cons_succ]
  refine wpAnyH_take (i := 3) (oi := ⟨some 53, _, _, _, _, _⟩) (v := ?v3r13) rfl (by kernel_rfl) (by kernel_rfl) (by kernel_rfl) (fun _ _ _ h => h) (Or.inl ⟨by rfl, ?y3r13⟩) hHeld ?r3r13
  case y3r13 =>
    rintro w' hSw
    go_simp
    try with_reducible rfl
  try simp only [Act.put, List.setIfInBounds_toArray, List.set_cons_zero, List.set_cons_succ]
  refine wpAnyH_take (i := 4) (oi := ⟨some 54, _, _, _, _, _⟩) (v := ?v4r13) rfl (by kernel_rfl) (by kernel_rfl) (by kernel_rfl) (fun _ _ _ h => h) (Or.inl ⟨by rfl, ?y4r13⟩) hHeld ?r4r13
  case y4r13 =>
    rintro w' hSw
    go_simp
    try with_reducible rfl
  try simp only [Act.put, List.setIfInBounds_toArray, List.set_cons_zero, List.set_cons_succ]
  refine wpAnyH_take (i := 5) (oi := ⟨some 55, _, _, _, _, _⟩) (v := ?v5r13) rfl (by kernel_rfl) (by kernel_rfl) (by kernel_rfl) (fun _ _ _ h => h) (Or.inl ⟨by rfl, ?y5r13⟩) hHeld ?r5r13
  case y5r13 =>
    rintro w' hSw
    go_simp
    try with_reducible rfl
  try simp only [Act.put, List.setIfInBounds_toArray, List.set_cons_zero, List.set_cons_succ]
  refine wpAnyH_take (i := 6) (oi := ⟨some 56, _, _, _, _, _⟩) (v := ?v6r13) rfl (by kernel_rfl) (by kernel_rfl) (by kernel_rfl) (fun _ _ _ h => h) (Or.inl ⟨by rfl, ?y6r13⟩) hHeld ?r6r13
  case y6r13 =>
    rintro w' hSw
    have c26 := hSw.2
    go_simp
    try with_reducible rfl
  try simp only [Act.put, List.setIfInBounds_toArray, List.set_cons_zero, List.set_cons_succ]
  refine wpAnyH_take (i := 7) (oi := ⟨some 57, _, _, _, _, _⟩) (v := ?v7r13) rfl (by kernel_rfl) (by kernel_rfl) (by kernel_rfl) (fun _ _ _ h => h) (Or.inl ⟨by rfl, ?y7r13⟩) hHeld ?r7r13
  case y7r13 =>
    rintro w' hSw
    go_simp
    try with_reducible rfl
  try simp only [Act.put, List.setIfInBounds_toArray, List.set_cons_zero, List.set_cons_succ]
  refine wpAnyH_take (i := 8) (oi := ⟨some 58, _, _, _, _, _⟩) (v := ?v8r13) rfl (by kernel_rfl) (by kernel_rfl) (by kernel_rfl) (fun _ _ _ h => h) (Or.inl ⟨by rfl, ?y8r13⟩) hHeld ?r8r13
  case y8r13 =>
    rintro w' hSw
    go_simp
    try with_reducible rfl
  try simp only [Act.put, List.setIfInBounds_toArray, List.set_cons_zero, List.set_cons_succ]
  refine wpAnyH_ready (rs := [9]) (by kernel_rfl) (by simp) ?_
  refine AllReadyH.cons rfl (fun K hK => ?_) AllReadyH.nil
  have hcl : w10.cell? ⟨w.heap.size + 1, 4, none⟩ = some (.int .i64 0) := H10.out.r5.cell 4
  have hfr := H10.out.r5.frozen 4
  go_simp
  have H11 := Lib.hid (H10.out.set 4 (.int .i64 (by_ l 25 : Int)))
  generalize w10.setCell ⟨w.heap.size + 1, 4, none⟩ (.int .i64 (by_ l 25 : Int)) = w11 at H11 ⊢
  clear hcl hfr
  have hS11 := (show _ ∧ _ from ⟨H11.out.byte 25 (by have := HL.out; omega), H11.out.byte 26 (by have := HL.out; omega)⟩)
  refine hK _ _ hS11 (fun _ => ?_)
  clear hK K
  try simp only [Act.put, List.setIfInBounds_toArray, List.set_cons_zero, List.set_cons_succ]
  refine wpAnyH_take (i := 10) (oi := ⟨some 59, _, _, _, _, _⟩) (v := ?v10r13) rfl (by kernel_rfl) (by kernel_rfl) (by kernel_rfl) (fun _ _ _ h => h) (Or.inl ⟨by rfl, ?y10r13⟩) hS11 ?r10r13
  case y10r13 =>
    rintro w' hSw
    go_simp
    try with_reducible rfl
  try simp only [Act.put, List.setIfInBounds_toArray, List.set_cons_zero, List.set_cons_succ]
  refine wpAnyH_ready (rs := [11]) (by kernel_rfl) (by simp) ?_
  refine AllReadyH.cons rfl (fun K hK => ?_) AllReadyH.nil
  have hcl : w11.cell? ⟨w.heap.size + 1, 5, none⟩ = some (.int .i64 0) := H11.out.r5.cell 5
  have hfr := H11.out.r5.frozen 5
  go_simp
  have H12 := Lib.hid (H11.out.set 5 (.int .i64 (by_ l 26 : Int)))
  generalize w11.setCell ⟨w.heap.size + 1, 5, none⟩ (.int .i64 (by_ l 26 : Int)) = w12 at H12 ⊢
  clear hcl hfr
  have hS12 := (show _ ∧ _ from ⟨H12.out.byte 25 (by have := HL.out; omega), H12.out.byte 26 (by have := HL.out; omega)⟩)
  refine hK _ _ hS12 (fun _ => ?_)
  clear hK K
  try simp only [Act.put, List.setIfInBounds_toArray, List.set_cons_zero, List.set_cons_succ]
  refine wpAnyH_done (by kernel_rfl) ?_ _
  have H13 := Lib.hid (show Dc w (some ⟨b, o, none⟩) l [.int .u64 (n8 l 1 : Int), .int .i64 (by_ l 0 : Int), .int .u64 (n8 l 9 : Int), .int .u64 (n8 l 17 : Int), .int .i64 (by_ l 25 : Int), .int .i64 (by_ l 26 : Int), .slice none 0 0, .slice none 0 0, .int .u64 0] w12 from H12.out)
  clear hS11 hS12 H9 H10 H11 H12 hby25 hby26
  have hx1w12 : w12.cell? ⟨w.heap.size + 1, 1, none⟩ = some (.int .i64 (by_ l 0 : Int)) := H13.out.r5.cell 1
  have hby27 := H13.out.byte 27 (by have := HL.out; omega)
  have hi27 : (27 : Int) < (n : Int) := by omega
  have hb27 : by_ l 27 < 256 := by_lt l 27
  have hxi : w12.cell? ⟨w.heap.size + 1, 6, none⟩ = some (.slice none 0 0) := H13.out.r5.cell 6
  have hfi := H13.out.r5.frozen 6
  have hne28 : ¬ c = 28 := by omega
  have hle28 : (28 : Int) + (by_ l 27 : Int) ≤ (c : Int) := by omega
  go_upto_region 20 with fail
  have H14x := Lib.hid (H13.out.set 6 (.slice (some ⟨b, o + 28, none⟩) (by_ l 27) (c - 28)))
  generalize w12.setCell ⟨w.heap.size + 1, 6, none⟩ (.slice (some ⟨b, o + 28, none⟩) (by_ l 27) (c - 28)) = w13 at H14x ⊢
  have H14 := Lib.hid (show Dc w (some ⟨b, o, none⟩) l [.int .u64 (n8 l 1 : Int), .int .i64 (by_ l 0 : Int), .int .u64 (n8 l 9 : Int), .int .u64 (n8 l 17 : Int), .int .i64 (by_ l 25 : Int), .int .i64 (by_ l 26 : Int), .slice (some ⟨b, o + 28, none⟩) (by_ l 27) (c - 28), .slice none 0 0, .int .u64 0] w13 from H14x.out)
  clear H14x hxi hfi
  have hx1w13 : w13.cell? ⟨w.heap.size + 1, 1, none⟩ = some (.int .i64 (by_ l 0 : Int)) := H14.out.r5.cell 1
  have hb28 : by_ l (28 + by_ l 27) < 256 := by_lt l _
  have hby28 := H14.out.byte (28 + by_ l 27) (by have := HL.out; omega)
  have hi28 : (28 : Int) + (by_ l 27 : Int) < (n : Int) := by omega
  have hd7 : ((by_ l 0 : Int) == 2) = false := by simp; omega
  have hxi : w13.cell? ⟨w.heap.size + 1, 7, none⟩ = some (.slice none 0 0) := H14.out.r5.cell 7
  have hfi := H14.out.r5.frozen 7
  have hle29 : (28 : Int) + (by_ l 27 : Int) + 1 + (by_ l (28 + by_ l 27) : Int) ≤ (c : Int) := by omega
  go_upto_region 25 with fail
  have H15x := Lib.hid (H14.out.set 7 (.slice (if c = 28 + by_ l 27 + 1 then some ⟨b, o, none⟩ else some ⟨b, o + (28 + by_ l 27 + 1), none⟩) (by_ l (28 + by_ l 27)) (c - (28 + by_ l 27 + 1))))
  obtain ⟨AN, hAN⟩ : ∃ AN : Option Addr, AN = (if c = 28 + by_ l 27 + 1 then some ⟨b, o, none⟩ else some ⟨b, o + (28 + by_ l 27 + 1), none⟩) := ⟨_, rfl⟩
  have HAN := Lib.hid hAN
  rw [← hAN] at H15x ⊢
  clear hAN
  generalize w13.setCell ⟨w.heap.size + 1, 7, none⟩ (.slice AN (by_ l (28 + by_ l 27)) (c - (28 + by_ l 27 + 1))) = w14 at H15x ⊢
  have H15 := Lib.hid (show Dc w (some ⟨b, o, none⟩) l [.int .u64 (n8 l 1 : Int), .int .i64 (by_ l 0 : Int), .int .u64 (n8 l 9 : Int), .int .u64 (n8 l 17 : Int), .int .i64 (by_ l 25 : Int), .int .i64 (by_ l 26 : Int), .slice (some ⟨b, o + 28, none⟩) (by_ l 27) (c - 28), .slice AN (by_ l (28 + by_ l 27)) (c - (28 + by_ l 27 + 1)), .int .u64 0] w14 from H15x.out)
  clear H15x hxi hfi
  have HBN : Hid (Bs w14 w.heap.size AN (sl l (28 + by_ l 27 + 1) (by_ l (28 + by_ l 27)))) := by
    rw [HAN.out]
    by_cases hc : c = 28 + by_ l 27 + 1
    · have hz : (by_ l (28 + by_ l 27)) = 0 := by omega
      rw [if_pos hc, show sl l (28 + by_ l 27 + 1) (by_ l (28 + by_ l 27)) = [] from by rw [hz]; simp [sl]]
      exact Bs.nil _ _ _
    · rw [if_neg hc]
      exact H15.out.cut (28 + by_ l 27 + 1) (by_ l (28 + by_ l 27)) (by have := HL.out; omega)
  have HAN0 : Hid (AN = none → c - (28 + by_ l 27 + 1) = 0) := fun h => by
    exfalso
    rw [HAN.out] at h
    split at h <;> cases h
  have hx1w14 : w14.cell? ⟨w.heap.size + 1, 1, none⟩ = some (.int .i64 (by_ l 0 : Int)) := H15.out.r5.cell 1
  obtain ⟨R, hRe⟩ : ∃ R : RM, R = ⟨n8 l 1, (by_ l 0 : Int), n8 l 9, n8 l 17, (by_ l 25 : Int), (by_ l 26 : Int), sl l 28 (by_ l 27), sl l (28 + by_ l 27 + 1) (by_ l (28 + by_ l 27)), 0⟩ := ⟨_, rfl⟩
  obtain ⟨S, hSe⟩ : ∃ S : RS, S = ⟨some ⟨b, o + 28, none⟩, by_ l 27, c - 28, AN, by_ l (28 + by_ l 27), c - (28 + by_ l 27 + 1)⟩ := ⟨_, rfl⟩
  have HW5 : Hid (Row w14 (w.heap.size + 1) 34 (rcs R S)) := (show Row _ _ _ _ by rw [hRe, hSe]; exact H15.out.r5)
  have HREC : Hid (RecAt w14 w.heap.size R S) := (show RecAt _ _ _ _ by rw [hRe, hSe]; exact ⟨sl_len l 28 (by_ l 27) (by have := HL.out; omega), sl_len l (28 + by_ l 27 + 1) (by_ l (28 + by_ l 27)) (by have := HL.out; omega), by show by_ l 27 ≤ _; omega, by show by_ l (28 + by_ l 27) ≤ _; omega, H15.out.cut 28 (by_ l 27) (by have := HL.out; omega), HBN.out, (fun hh => by cases hh), HAN0.out⟩)
  have HZR : Hid (recM l 0 = if okM R = true then (0, R, (28 + by_ l 27 + 1 + by_ l (28 + by_ l 27), 0)) else (150, zeroR, (28 + by_ l 27 + 1 + by_ l (28 + by_ l 27), 0))) := (show _ = _ by rw [hRe]; exact HZ.out)
  have HI := Lib.hid (show (Try.prog.info? 34).map (·.size) = some (rcs R S).length from rec_info)
  have HLE := Lib.hid (show (rcs R S).length = (rcs zeroR zeroS).length from rfl)
  have HONE : Hid (∀ v ∈ (rcs R S), v.oneCell' = true) := rcs_one
  clear hRe hSe
  go_wp2_with (with_reducible refine wpList_load_row (op := ⟨some 134, _, _, _, _, _⟩) ?_ 34 (.tmp 5) ?_ (w.heap.size + 1) 0 ?_ (rcs R S) _ (Row.all HW5.out) Try.underlying34 ?_ HI.out ?_)
  all_goals try (first | rfl | (simp; done))
  refine (right_any R S w.heap.size w14 HREC.out H15.out.hb.size).mono ?_
  rintro e wr ⟨rfl, hbr⟩
  have hsz : w.heap.size + 1 < w14.heap.size := by have := H15.out.hs; omega
  have HW2 := Lib.hid (H15.out.r2.below hbr (by omega))
  replace HW5 := Lib.hid (HW5.out.below hbr hsz)
  have HBB := Lib.hid (H15.out.hb.trans (hbr.mono H15.out.hb.size))
  replace HREC := Lib.hid ((HREC.out.below (hbr.mono H15.out.hb.size)).more HBB.out.size)
  clear hbr
  cases hK : okM R
  · have HK := Lib.hid hK
    have HZ7 : Hid ((recM l 0).1 = 150) := (show _ = _ by rw [HZR.out, hK]; rfl)
    have HI := Lib.hid (show (Try.prog.info? 34).map (·.size) = some (rcs zeroR zeroS).length from rec_info)
    have HLE := Lib.hid (show (rcs zeroR zeroS).length = zcs.length from rfl)
    have HW2z := Lib.hid (show Row wr w.heap.size 34 zcs from HW2.out)
    have HONE : Hid (∀ v ∈ (rcs zeroR zeroS), v.oneCell' = true) := rcs_one
    go_wp2_with (with_reducible refine wpList_store_whole (op := ⟨none, _, _, _, _, _⟩) ?_ 34 (.tmp 2) (.tmp 137) ?_ w.heap.size (rcs zeroR zeroS) ?_ ?_ 34 zcs HW2z.out HLE.out HONE.out HI.out ?_)
    all_goals try (first | rfl | (simp; done))
    intro wz hr8 hg8
    have HRES := Lib.hid (run_loadVar_mid (P := Try.prog) wz w.heap.size 0 34 (rcs zeroR zeroS) _ (Row.all hr8) Try.underlying34 rfl HI.out)
    have HB8 := Lib.hid (below_grown2 HBB.out hg8)
    clear hr8 hg8
    go_wp2
    refine bodyPost_ret (v := .tuple #[.agg (rcs zeroR zeroS).toArray, .int .i64 0, .int .i64 150]) (res_cell_tmp2 (p := 2) (q := 3) (q2 := 4) (ty := 34) rfl _ _ ⟨w.heap.size, 0, none⟩ _ _ _ rfl HRES.out rfl rfl) rfl ?_
    exact dec_err HZ7.out (by decide) HB8.out
  · have HZ7 : Hid (recM l 0 = (0, R, (28 + by_ l 27 + 1 + by_ l (28 + by_ l 27), 0))) := (show _ = _ by rw [HZR.out, if_pos hK])
    go_wp2_with (first
      | (with_reducible refine wpList_load_row (op := ⟨some 138, _, _, _, _, _⟩) ?_ 34 (.tmp 5) ?_ (w.heap.size + 1) 0 ?_ (rcs R S) _ (Row.all HW5.out) Try.underlying34 ?_ HI.out ?_)
      | (with_reducible refine wpList_store_whole (op := ⟨none, _, _, _, _, _⟩) ?_ 34 (.tmp 2) (.tmp 138) ?_ w.heap.size (rcs R S) ?_ ?_ 34 (rcs zeroR zeroS) HW2.out HLE.out HONE.out HI.out ?_))
    all_goals try (first | rfl | (simp; done))
    intro wz hr8 hg8
    have HRES := Lib.hid (run_loadVar_mid (P := Try.prog) wz w.heap.size 0 34 (rcs R S) _ (Row.all hr8) Try.underlying34 rfl HI.out)
    have HB8 := Lib.hid (below_grown2 HBB.out hg8)
    have HRE := Lib.hid ((RecAt.far (r0 := zeroR) (s0 := zeroS) HREC.out (Nat.le_refl _) HW2.out (w' := wz) (fun j hj hlt => hg8.block j hlt (fun e => hj (Option.some.inj e)))).more hg8.size)
    clear hr8 hg8
    go_wp2
    refine bodyPost_ret (v := .tuple #[.agg (rcs R S).toArray, .int .i64 ((28 : Int) + (by_ l 27 : Int) + 1 + (by_ l (28 + by_ l 27) : Int)), .int .i64 0]) (res_cell_tmp2 (p := 2) (q := 3) (q2 := 4) (ty := 34) rfl _ _ ⟨w.heap.size, 0, none⟩ _ _ _ rfl HRES.out rfl rfl) rfl ?_
    exact ⟨S, by rw [HZ7.out]; rfl, by rw [HZ7.out]; exact HRE.out, HB8.out⟩


set_option maxHeartbeats 4000000 in
theorem dec_2next (b o n c : Nat) (l : List UInt8) (w : World) (hl : l.length = n) (hnc : n ≤ c) (hcm : c ≤ 140737488351232) (hb : Bs w w.heap.size (some ⟨b, o, none⟩) l) (hlt : b < w.heap.size) (hn : 0 < n) (hk : by_ l 0 = 2) (h28 : 28 + by_ l 27 ≤ n) (h2 : n < 36 + by_ l 27) (hc28n : ¬ c = 28) :
    Calls Try.prog 44 #[.slice (some ⟨b, o, none⟩) n c] w (DecOut w (recM l 0)) := by
  have mixed : Try.prog.follows .mixedOrders = true := by kernel_rfl
  have HL := Lib.hid hl
  have hn0 : ((n : Int) == 0) = false := by simp; omega
  have hnn : 0 < (n : Int) := by omega
  have hc0 : w.cell? ⟨b, o, none⟩ = some (.int .u8 (by_ l 0 : Int)) := by
    obtain ⟨b', o', e, _, hc⟩ := hb (by omega)
    cases e
    have := hc 0 (by omega)
    simpa [by_] using this
  have hk256 : by_ l 0 < 256 := by_lt l 0
  have HZ := Lib.hid (recM_short l 27 true false true true (by omega) (by rw [hk]; rfl) (by decide) (by decide) (by decide) (by decide) (by decide) (two_next l (by omega) (by omega)))
  have hkb : 2 ≤ by_ l 0 ∧ by_ l 0 ≤ 2 := by omega
  clear hk
  have HBS := Lib.hid hb
  clear hl hb
  go_enter Try.func44, Try.ntmps44
  go_upto_region 4 with fail
  have h0 : Dc w (some ⟨b, o, none⟩) l [.int .u64 0, .int .i64 (by_ l 0 : Int), .int .u64 0, .int .u64 0, .int .i64 0, .int .i64 0, .slice none 0 0, .slice none 0 0, .int .u64 0] ((w.alloc (.cells #[.int .u64 0, .int .i64 0, .int .u64 0, .int .u64 0, .int .i64 0, .int .i64 0, .slice none 0 0, .slice none 0 0, .int .u64 0] 34)).alloc (.cells #[.int .u64 0, .int .i64 (by_ l 0 : Int), .int .u64 0, .int .u64 0, .int .i64 0, .int .i64 0, .slice none 0 0, .slice none 0 0, .int .u64 0] 34)) := ⟨(Row.new w _ _).alloc _, by
    have := Row.new (w.alloc (.cells #[.int .u64 0, .int .i64 0, .int .u64 0, .int .u64 0, .int .i64 0, .int .i64 0, .slice none 0 0, .slice none 0 0, .int .u64 0] 34)) 34 [.int .u64 0, .int .i64 (by_ l 0 : Int), .int .u64 0, .int .u64 0, .int .i64 0, .int .i64 0, .slice none 0 0, .slice none 0 0, .int .u64 0]
    rwa [World.size_alloc] at this, ((Below.refl _ _).alloc (Nat.le_refl _) _).alloc (by simp) _, (HBS.out.alloc (Nat.le_refl _) _).alloc (by simp) _, by simp⟩
  clear HBS
  generalize (w.alloc (.cells #[.int .u64 0, .int .i64 0, .int .u64 0, .int .u64 0, .int .i64 0, .int .i64 0, .slice none 0 0, .slice none 0 0, .int .u64 0] 34)).alloc (.cells #[.int .u64 0, .int .i64 (by_ l 0 : Int), .int .u64 0, .int .u64 0, .int .i64 0, .int .i64 0, .slice none 0 0, .slice none 0 0, .int .u64 0] 34) = w1 at *
  have H1 := Lib.hid h0
  clear h0 hc0
  have hx1 : w1.cell? ⟨w.heap.size + 1, 1, none⟩ = some (.int .i64 (by_ l 0 : Int)) := H1.out.r5.cell 1
  have hd1 : decide ((by_ l 0 : Int) < 1) = false := by simp; omega
  have hd2 : decide (4 < (by_ l 0 : Int)) = false := by simp; omega
  have hd3 : decide ((n : Int) < 25) = false := by simp; omega
  have hd4 : decide ((by_ l 0 : Int) ≤ 2) = true := by simp; omega
  have hd5 : decide ((n : Int) < 28) = false := by simp; omega
  have hd6 : ((by_ l 0 : Int) == 1) = false := by simp; omega
  have hd7 : ((by_ l 0 : Int) == 2) = true := by simp; omega

  go_upto_region 8 with fail
  have hc9 : (9 : Int) ≤ (c : Int) := by omega
  have hc17 : (17 : Int) ≤ (c : Int) := by omega
  have hc25 : (25 : Int) ≤ (c : Int) := by omega
  have hne1 : ¬ c = 1 := by omega
  have hne9 : ¬ c = 9 := by omega
  have hne17 : ¬ c = 17 := by omega
  refine wp_region_held_drew (S := fun _ => True) (by kernel_rfl) trivial (fun hHeld => ?_)
  have H2 := Lib.hid H1.out.drew
  generalize w1.drew = w2 at *
  refine wpAnyH_take (i := 0) (oi := ⟨some 31, _, _, _, _, _⟩) (v := ?v0r8) rfl (by kernel_rfl) (by kernel_rfl) (by kernel_rfl) (fun _ _ _ h => h) (Or.inl ⟨by rfl, ?y0r8⟩) trivial ?r0r8
  case y0r8 =>
    rintro w' hSw
    go_simp
    try with_reducible rfl
  try simp only [Act.put, List.setIfInBounds_toArray, List.set_cons_zero, List.set_cons_succ]
  refine wpAnyH_take (i := 1) (oi := ⟨some 32, _, _, _, _, _⟩) (v := ?v1r8) rfl (by kernel_rfl) (by kernel_rfl) (by kernel_rfl) (fun _ _ _ h => h) (Or.inl ⟨by rfl, ?y1r8⟩) trivial ?r1r8
  case y1r8 =>
    rintro w' hSw
    go_simp
    try with_reducible rfl
  try simp only [Act.put, List.setIfInBounds_toArray, List.set_cons_zero, List.set_cons_succ]
  refine wpAnyH_take (i := 3) (oi := ⟨some 34, _, _, _, _, _⟩) (v := ?v3r8) rfl (by kernel_rfl) (by kernel_rfl) (by kernel_rfl) (fun _ _ _ h => h) (Or.inl ⟨by rfl, ?y3r8⟩) trivial ?r3r8
  case y3r8 =>
    rintro w' hSw
    go_simp
    try with_reducible rfl
  try simp only [Act.put, List.setIfInBounds_toArray, List.set_cons_zero, List.set_cons_succ]
  refine wpAnyH_take (i := 4) (oi := ⟨some 35, _, _, _, _, _⟩) (v := ?v4r8) rfl (by kernel_rfl) (by kernel_rfl) (by kernel_rfl) (fun _ _ _ h => h) (Or.inl ⟨by rfl, ?y4r8⟩) trivial ?r4r8
  case y4r8 =>
    rintro w' hSw
    go_simp
    try with_reducible rfl
  try simp only [Act.put, List.setIfInBounds_toArray, List.set_cons_zero, List.set_cons_succ]
  refine wpAnyH_take (i := 6) (oi := ⟨some 37, _, _, _, _, _⟩) (v := ?v6r8) rfl (by kernel_rfl) (by kernel_rfl) (by kernel_rfl) (fun _ _ _ h => h) (Or.inl ⟨by rfl, ?y6r8⟩) trivial ?r6r8
  case y6r8 =>
    rintro w' hSw
    go_simp
    try with_reducible rfl
  try simp only [Act.put, List.setIfInBounds_toArray, List.set_cons_zero, List.set_cons_succ]
  refine wpAnyH_take (i := 7) (oi := ⟨some 38, _, _, _, _, _⟩) (v := ?v7r8) rfl (by kernel_rfl) (by kernel_rfl) (by kernel_rfl) (fun _ _ _ h => h) (Or.inl ⟨by rfl, ?y7r8⟩) trivial ?r7r8
  case y7r8 =>
    rintro w' hSw
    go_simp
    try with_reducible rfl
  try simp only [Act.put, List.setIfInBounds_toArray, List.set_cons_zero, List.set_cons_succ]
  refine wpAnyH_ready (rs := [2]) (by kernel_rfl) (by simp) ?_
  refine AllReadyH.cons rfl (fun K hK => ?_) AllReadyH.nil
  go_simp
  refine (num_any (some ⟨b, o + 1, none⟩) (sl l 1 8) 8 (c - 1) w.heap.size w2 (sl_len l 1 8 (by have := HL.out; omega)) (by omega) (H2.out.cut 1 8 (by have := HL.out; omega))).mono ?_
  rintro e w3 ⟨rfl, hst⟩
  have H3 := H2
  rw [hst] at H3
  clear hst
  refine hK _ _ trivial (fun _ => ?_)
  clear hK K
  try simp only [Act.put, List.setIfInBounds_toArray, List.set_cons_zero, List.set_cons_succ]
  refine wpAnyH_take (i := 9) (oi := ⟨some 40, _, _, _, _, _⟩) (v := ?v9r8) rfl (by kernel_rfl) (by kernel_rfl) (by kernel_rfl) (fun _ _ _ h => h) (Or.inl ⟨by rfl, ?y9r8⟩) trivial ?r9r8
  case y9r8 =>
    rintro w' hSw
    go_simp
    try with_reducible rfl
  try simp only [Act.put, List.setIfInBounds_toArray, List.set_cons_zero, List.set_cons_succ]
  refine wpAnyH_ready (rs := [5]) (by kernel_rfl) (by simp) ?_
  refine AllReadyH.cons rfl (fun K hK => ?_) AllReadyH.nil
  go_simp
  refine (num_any (some ⟨b, o + 9, none⟩) (sl l 9 8) 8 (c - 9) w.heap.size w3 (sl_len l 9 8 (by have := HL.out; omega)) (by omega) (H3.out.cut 9 8 (by have := HL.out; omega))).mono ?_
  rintro e w4 ⟨rfl, hst⟩
  have H4 := H3
  rw [hst] at H4
  clear hst
  refine hK _ _ trivial (fun _ => ?_)
  clear hK K
  try simp only [Act.put, List.setIfInBounds_toArray, List.set_cons_zero, List.set_cons_succ]
  refine wpAnyH_ready (rs := [8]) (by kernel_rfl) (by simp) ?_
  refine AllReadyH.cons rfl (fun K hK => ?_) AllReadyH.nil
  go_simp
  refine (num_any (some ⟨b, o + 17, none⟩) (sl l 17 8) 8 (c - 17) w.heap.size w4 (sl_len l 17 8 (by have := HL.out; omega)) (by omega) (H4.out.cut 17 8 (by have := HL.out; omega))).mono ?_
  rintro e w5 ⟨rfl, hst⟩
  have H5 := H4
  rw [hst] at H5
  clear hst
  refine hK _ _ trivial (fun _ => ?_)
  clear hK K
  try simp only [Act.put, List.setIfInBounds_toArray, List.set_cons_zero, List.set_cons_succ]
  refine wpAnyH_ready (rs := [10]) (by kernel_rfl) (by simp) ?_
  refine AllReadyH.cons rfl (fun K hK => ?_) AllReadyH.nil
  have hcl : w5.cell? ⟨w.heap.size + 1, 0, none⟩ = some (.int .u64 0) := H5.out.r5.cell 0
  have hfr := H5.out.r5.frozen 0
  go_simp
  have H6 := Lib.hid (H5.out.set 0 (.int .u64 (num (sl l 1 8) : Int)))
  generalize w5.setCell ⟨w.heap.size + 1, 0, none⟩ (.int .u64 (num (sl l 1 8) : Int)) = w6 at H6 ⊢
  clear hcl hfr
  refine hK _ _ trivial (fun _ => ?_)
  clear hK K
  try simp only [Act.put, List.setIfInBounds_toArray, List.set_cons_zero, List.set_cons_succ]
  refine wpAnyH_take (i := 11) (oi := ⟨some 41, _, _, _, _, _⟩) (v := ?v11r8) rfl (by kernel_rfl) (by kernel_rfl) (by kernel_rfl) (fun _ _ _ h => h) (Or.inl ⟨by rfl, ?y11r8⟩) trivial ?r11r8
  case y11r8 =>
    rintro w' hSw
    go_simp
    try with_reducible rfl
  try simp only [Act.put, List.setIfInBounds_toArray, List.set_cons_zero, List.set_cons_succ]
  refine wpAnyH_ready (rs := [12]) (by kernel_rfl) (by simp) ?_
  refine AllReadyH.cons rfl (fun K hK => ?_) AllReadyH.nil
  have hcl : w6.cell? ⟨w.heap.size + 1, 2, none⟩ = some (.int .u64 0) := H6.out.r5.cell 2
  have hfr := H6.out.r5.frozen 2
  go_simp
  have H7 := Lib.hid (H6.out.set 2 (.int .u64 (num (sl l 9 8) : Int)))
  generalize w6.setCell ⟨w.heap.size + 1, 2, none⟩ (.int .u64 (num (sl l 9 8) : Int)) = w7 at H7 ⊢
  clear hcl hfr
  refine hK _ _ trivial (fun _ => ?_)
  clear hK K
  try simp only [Act.put, List.setIfInBounds_toArray, List.set_cons_zero, List.set_cons_succ]
  refine wpAnyH_take (i := 13) (oi := ⟨some 42, _, _, _, _, _⟩) (v := ?v13r8) rfl (by kernel_rfl) (by kernel_rfl) (by kernel_rfl) (fun _ _ _ h => h) (Or.inl ⟨by rfl, ?y13r8⟩) trivial ?r13r8
  case y13r8 =>
    rintro w' hSw
    go_simp
    try with_reducible rfl
  try simp only [Act.put, List.setIfInBounds_toArray, List.set_cons_zero, List.set_cons_succ]
  refine wpAnyH_ready (rs := [14]) (by kernel_rfl) (by simp) ?_
  refine AllReadyH.cons rfl (fun K hK => ?_) AllReadyH.nil
  have hcl : w7.cell? ⟨w.heap.size + 1, 3, none⟩ = some (.int .u64 0) := H7.out.r5.cell 3
  have hfr := H7.out.r5.frozen 3
  go_simp
  have H8 := Lib.hid (H7.out.set 3 (.int .u64 (num (sl l 17 8) : Int)))
  generalize w7.setCell ⟨w.heap.size + 1, 3, none⟩ (.int .u64 (num (sl l 17 8) : Int)) = w8 at H8 ⊢
  clear hcl hfr
  refine hK _ _ trivial (fun _ => ?_)
  clear hK K
  try simp only [Act.put, List.setIfInBounds_toArray, List.set_cons_zero, List.set_cons_succ]
  refine wpAnyH_done (by kernel_rfl) ?_ _
  have H9 := Lib.hid (show Dc w (some ⟨b, o, none⟩) l [.int .u64 (n8 l 1 : Int), .int .i64 (by_ l 0 : Int), .int .u64 (n8 l 9 : Int), .int .u64 (n8 l 17 : Int), .int .i64 0, .int .i64 0, .slice none 0 0, .slice none 0 0, .int .u64 0] w8 from H8.out)
  clear H1 H2 H3 H4 H5 H6 H7 H8
  have hx1w8 : w8.cell? ⟨w.heap.size + 1, 1, none⟩ = some (.int .i64 (by_ l 0 : Int)) := H9.out.r5.cell 1
  go_upto_region 13 with fail
  have hi25 : (25 : Int) < (n : Int) := by omega
  have hi26 : (26 : Int) < (n : Int) := by omega
  have hby25 := H9.out.byte 25 (by have := HL.out; omega)
  have hby26 := H9.out.byte 26 (by have := HL.out; omega)
  have hw25 : IntKind.i64.wrap (by_ l 25 : Int) = (by_ l 25 : Int) := by rw [IntKind.wrap_i64]; have := by_lt l 25; omega
  have hw26 : IntKind.i64.wrap (by_ l 26 : Int) = (by_ l 26 : Int) := by rw [IntKind.wrap_i64]; have := by_lt l 26; omega
  refine wp_region_held_drew (S := fun w' => w'.cell? ⟨b, o + 25, none⟩ = some (.int .u8 (by_ l 25 : Int)) ∧ w'.cell? ⟨b, o + 26, none⟩ = some (.int .u8 (by_ l 26 : Int))) (by kernel_rfl) ⟨hby25, hby26⟩ (fun hHeld => ?_)
  have H10 := Lib.hid H9.out.drew
  generalize w8.drew = w10 at *
  refine wpAnyH_take (i := 0) (oi := ⟨some 50, _, _, _, _, _⟩) (v := ?v0r13) rfl (by kernel_rfl) (by kernel_rfl) (by kernel_rfl) (fun _ _ _ h => h) (Or.inl ⟨by rfl, ?y0r13⟩) hHeld ?r0r13
  case y0r13 =>
    rintro w' hSw
    go_simp
    try with_reducible rfl
  try simp only [Act.put, List.setIfInBounds_toArray, List.set_cons_zero, List.set_cons_succ]
  refine wpAnyH_take (i := 1) (oi := ⟨some 51, _, _, _, _, _⟩) (v := ?v1r13) rfl (by kernel_rfl) (by kernel_rfl) (by kernel_rfl) (fun _ _ _ h => h) (Or.inl ⟨by rfl, ?y1r13⟩) hHeld ?r1r13
  case y1r13 =>
    rintro w' hSw
    go_simp
    try with_reducible rfl
  try simp only [Act.put, List.setIfInBounds_toArray, List.set_cons_zero, List.set_cons_succ]
  refine wpAnyH_take (i := 2) (oi := ⟨some 52, _, _, _, _, _⟩) (v := ?v2r13) rfl (by kernel_rfl) (by kernel_rfl) (by kernel_rfl) (fun _ _ _ h => h) (Or.inl ⟨by rfl, ?y2r13⟩) hHeld ?r2r13
  case y2r13 =>
    rintro w' hSw
    have c25 := hSw.1
    go_simp
    try with_reducible rfl
  try simp only [Act.put, List.setIfInBounds_toArray, List.set_cons_zero, List.set_cons_succ]
  refine wpAnyH_take (i := 3) (oi := ⟨some 53, _, _, _, _, _⟩) (v := ?v3r13) rfl (by kernel_rfl) (by kernel_rfl) (by kernel_rfl) (fun _ _ _ h => h) (Or.inl ⟨by rfl, ?y3r13⟩) hHeld ?r3r13
  case y3r13 =>
    rintro w' hSw
    go_simp
    try with_reducible rfl
  try simp only [Act.put, List.setIfInBounds_toArray, List.set_cons_zero, List.set_cons_succ]
  refine wpAnyH_take (i := 4) (oi := ⟨some 54, _, _, _, _, _⟩) (v := ?v4r13) rfl (by kernel_rfl) (by kernel_rfl) (by kernel_rfl) (fun _ _ _ h => h) (Or.inl ⟨by rfl, ?y4r13⟩) hHeld ?r4r13
  case y4r13 =>
    rintro w' hSw
    go_simp
    try with_reducible rfl
  try simp only [Act.put, List.setIfInBounds_toArray, List.set_cons_zero, List.set_cons_succ]
  refine wpAnyH_take (i := 5) (oi := ⟨some 55, _, _, _, _, _⟩) (v := ?v5r13) rfl (by kernel_rfl) (by kernel_rfl) (by kernel_rfl) (fun _ _ _ h => h) (Or.inl ⟨by rfl, ?y5r13⟩) hHeld ?r5r13
  case y5r13 =>
    rintro w' hSw
    go_simp
    try with_reducible rfl
  try simp only [Act.put, List.setIfInBounds_toArray, List.set_cons_zero, List.set_cons_succ]
  refine wpAnyH_take (i := 6) (oi := ⟨some 56, _, _, _, _, _⟩) (v := ?v6r13) rfl (by kernel_rfl) (by kernel_rfl) (by kernel_rfl) (fun _ _ _ h => h) (Or.inl ⟨by rfl, ?y6r13⟩) hHeld ?r6r13
  case y6r13 =>
    rintro w' hSw
    have c26 := hSw.2
    go_simp
    try with_reducible rfl
  try simp only [Act.put, List.setIfInBounds_toArray, List.set_cons_zero, List.set_cons_succ]
  refine wpAnyH_take (i := 7) (oi := ⟨some 57, _, _, _, _, _⟩) (v := ?v7r13) rfl (by kernel_rfl) (by kernel_rfl) (by kernel_rfl) (fun _ _ _ h => h) (Or.inl ⟨by rfl, ?y7r13⟩) hHeld ?r7r13
  case y7r13 =>
    rintro w' hSw
    go_simp
    try with_reducible rfl
  try simp only [Act.put, List.setIfInBounds_toArray, List.set_cons_zero, List.set_cons_succ]
  refine wpAnyH_take (i := 8) (oi := ⟨some 58, _, _, _, _, _⟩) (v := ?v8r13) rfl (by kernel_rfl) (by kernel_rfl) (by kernel_rfl) (fun _ _ _ h => h) (Or.inl ⟨by rfl, ?y8r13⟩) hHeld ?r8r13
  case y8r13 =>
    rintro w' hSw
    go_simp
    try with_reducible rfl
  try simp only [Act.put, List.setIfInBounds_toArray, List.set_cons_zero, List.set_cons_succ]
  refine wpAnyH_ready (rs := [9]) (by kernel_rfl) (by simp) ?_
  refine AllReadyH.cons rfl (fun K hK => ?_) AllReadyH.nil
  have hcl : w10.cell? ⟨w.heap.size + 1, 4, none⟩ = some (.int .i64 0) := H10.out.r5.cell 4
  have hfr := H10.out.r5.frozen 4
  go_simp
  have H11 := Lib.hid (H10.out.set 4 (.int .i64 (by_ l 25 : Int)))
  generalize w10.setCell ⟨w.heap.size + 1, 4, none⟩ (.int .i64 (by_ l 25 : Int)) = w11 at H11 ⊢
  clear hcl hfr
  have hS11 := (show _ ∧ _ from ⟨H11.out.byte 25 (by have := HL.out; omega), H11.out.byte 26 (by have := HL.out; omega)⟩)
  refine hK _ _ hS11 (fun _ => ?_)
  clear hK K
  try simp only [Act.put, List.setIfInBounds_toArray, List.set_cons_zero, List.set_cons_succ]
  refine wpAnyH_take (i := 10) (oi := ⟨some 59, _, _, _, _, _⟩) (v := ?v10r13) rfl (by kernel_rfl) (by kernel_rfl) (by kernel_rfl) (fun _ _ _ h => h) (Or.inl ⟨by rfl, ?y10r13⟩) hS11 ?r10r13
  case y10r13 =>
    rintro w' hSw
    go_simp
    try with_reducible rfl
  try simp only [Act.put, List.setIfInBounds_toArray, List.set_cons_zero, List.set_cons_succ]
  refine wpAnyH_ready (rs := [11]) (by kernel_rfl) (by simp) ?_
  refine AllReadyH.cons rfl (fun K hK => ?_) AllReadyH.nil
  have hcl : w11.cell? ⟨w.heap.size + 1, 5, none⟩ = some (.int .i64 0) := H11.out.r5.cell 5
  have hfr := H11.out.r5.frozen 5
  go_simp
  have H12 := Lib.hid (H11.out.set 5 (.int .i64 (by_ l 26 : Int)))
  generalize w11.setCell ⟨w.heap.size + 1, 5, none⟩ (.int .i64 (by_ l 26 : Int)) = w12 at H12 ⊢
  clear hcl hfr
  have hS12 := (show _ ∧ _ from ⟨H12.out.byte 25 (by have := HL.out; omega), H12.out.byte 26 (by have := HL.out; omega)⟩)
  refine hK _ _ hS12 (fun _ => ?_)
  clear hK K
  try simp only [Act.put, List.setIfInBounds_toArray, List.set_cons_zero, List.set_cons_succ]
  refine wpAnyH_done (by kernel_rfl) ?_ _
  have H13 := Lib.hid (show Dc w (some ⟨b, o, none⟩) l [.int .u64 (n8 l 1 : Int), .int .i64 (by_ l 0 : Int), .int .u64 (n8 l 9 : Int), .int .u64 (n8 l 17 : Int), .int .i64 (by_ l 25 : Int), .int .i64 (by_ l 26 : Int), .slice none 0 0, .slice none 0 0, .int .u64 0] w12 from H12.out)
  clear hS11 hS12 H9 H10 H11 H12 hby25 hby26
  have hx1w12 : w12.cell? ⟨w.heap.size + 1, 1, none⟩ = some (.int .i64 (by_ l 0 : Int)) := H13.out.r5.cell 1
  have hby27 := H13.out.byte 27 (by have := HL.out; omega)
  have hi27 : (27 : Int) < (n : Int) := by omega
  have hb27 : by_ l 27 < 256 := by_lt l 27
  have hxi : w12.cell? ⟨w.heap.size + 1, 7, none⟩ = some (.slice none 0 0) := H13.out.r5.cell 7
  have hfi := H13.out.r5.frozen 7
  have hne28 : ¬ c = 28 := by omega
  have hle28 : (27 : Int) + 1 + (by_ l 27 : Int) ≤ (c : Int) := by omega
  have hc28 : (28 : Int) ≤ (c : Int) := by omega
  go_upto_region 25 with fail
  have H14x := Lib.hid (H13.out.set 7 (.slice (some ⟨b, o + 28, none⟩) (by_ l 27) (c - 28)))
  generalize w12.setCell ⟨w.heap.size + 1, 7, none⟩ (.slice (some ⟨b, o + 28, none⟩) (by_ l 27) (c - 28)) = w13 at H14x ⊢
  have H14 := Lib.hid (show Dc w (some ⟨b, o, none⟩) l [.int .u64 (n8 l 1 : Int), .int .i64 (by_ l 0 : Int), .int .u64 (n8 l 9 : Int), .int .u64 (n8 l 17 : Int), .int .i64 (by_ l 25 : Int), .int .i64 (by_ l 26 : Int), .slice none 0 0, .slice (some ⟨b, o + 28, none⟩) (by_ l 27) (c - 28), .int .u64 0] w13 from H14x.out)
  clear H14x hxi hfi
  have hx1w13 : w13.cell? ⟨w.heap.size + 1, 1, none⟩ = some (.int .i64 (by_ l 0 : Int)) := H14.out.r5.cell 1
  have HI := Lib.hid (show (Try.prog.info? 34).map (·.size) = some (rcs zeroR zeroS).length from rec_info)
  have HLE := Lib.hid (show (rcs zeroR zeroS).length = (rcs zeroR zeroS).length from rfl)
  have HONE : Hid (∀ v ∈ (rcs zeroR zeroS), v.oneCell' = true) := rcs_one
  have HR2 := Lib.hid H14.out.r2
  go_wp2_with (with_reducible refine wpList_store_whole (op := ⟨none, _, _, _, _, _⟩) ?_ 34 (.tmp 2) (.tmp 124) ?_ w.heap.size (rcs zeroR zeroS) ?_ ?_ 34 (rcs zeroR zeroS) HR2.out HLE.out HONE.out HI.out ?_)
  all_goals try (first | rfl | (simp; done))
  intro w8 hr8 hg8
  have HRES := Lib.hid (run_loadVar_mid (P := Try.prog) w8 w.heap.size 0 34 (rcs zeroR zeroS) _ (Row.all hr8) Try.underlying34 rfl HI.out)
  have HB8 := Lib.hid (below_grown2 H14.out.hb hg8)
  clear hr8 hg8
  go_wp2
  refine bodyPost_ret (v := .tuple #[.agg (rcs zeroR zeroS).toArray, .int .i64 0, .int .i64 7]) (res_cell_tmp2 (p := 2) (q := 3) (q2 := 4) (ty := 34) rfl _ _ ⟨w.heap.size, 0, none⟩ _ _ _ rfl HRES.out rfl rfl) rfl ?_
  exact dec_err HZ.out (by decide) HB8.out


set_option maxHeartbeats 4000000 in
theorem dec_2next28 (b o n c : Nat) (l : List UInt8) (w : World) (hl : l.length = n) (hnc : n ≤ c) (hcm : c ≤ 140737488351232) (hb : Bs w w.heap.size (some ⟨b, o, none⟩) l) (hlt : b < w.heap.size) (hn : 0 < n) (hk : by_ l 0 = 2) (h28 : 28 + by_ l 27 ≤ n) (h2 : n < 36 + by_ l 27) (hc28e : Hid (c = 28)) (hcb : 28 ≤ c) :
    Calls Try.prog 44 #[.slice (some ⟨b, o, none⟩) n c] w (DecOut w (recM l 0)) := by
  have mixed : Try.prog.follows .mixedOrders = true := by kernel_rfl
  have HL := Lib.hid hl
  have hn0 : ((n : Int) == 0) = false := by simp; omega
  have hnn : 0 < (n : Int) := by omega
  have hc0 : w.cell? ⟨b, o, none⟩ = some (.int .u8 (by_ l 0 : Int)) := by
    obtain ⟨b', o', e, _, hc⟩ := hb (by omega)
    cases e
    have := hc 0 (by omega)
    simpa [by_] using this
  have hk256 : by_ l 0 < 256 := by_lt l 0
  have HZ := Lib.hid (recM_short l 27 true false true true (by omega) (by rw [hk]; rfl) (by decide) (by decide) (by decide) (by decide) (by decide) (two_next l (by omega) (by omega)))
  have hkb : 2 ≤ by_ l 0 ∧ by_ l 0 ≤ 2 := by omega
  clear hk
  have HBS := Lib.hid hb
  clear hl hb
  go_enter Try.func44, Try.ntmps44
  go_upto_region 4 with fail
  have h0 : Dc w (some ⟨b, o, none⟩) l [.int .u64 0, .int .i64 (by_ l 0 : Int), .int .u64 0, .int .u64 0, .int .i64 0, .int .i64 0, .slice none 0 0, .slice none 0 0, .int .u64 0] ((w.alloc (.cells #[.int .u64 0, .int .i64 0, .int .u64 0, .int .u64 0, .int .i64 0, .int .i64 0, .slice none 0 0, .slice none 0 0, .int .u64 0] 34)).alloc (.cells #[.int .u64 0, .int .i64 (by_ l 0 : Int), .int .u64 0, .int .u64 0, .int .i64 0, .int .i64 0, .slice none 0 0, .slice none 0 0, .int .u64 0] 34)) := ⟨(Row.new w _ _).alloc _, by
    have := Row.new (w.alloc (.cells #[.int .u64 0, .int .i64 0, .int .u64 0, .int .u64 0, .int .i64 0, .int .i64 0, .slice none 0 0, .slice none 0 0, .int .u64 0] 34)) 34 [.int .u64 0, .int .i64 (by_ l 0 : Int), .int .u64 0, .int .u64 0, .int .i64 0, .int .i64 0, .slice none 0 0, .slice none 0 0, .int .u64 0]
    rwa [World.size_alloc] at this, ((Below.refl _ _).alloc (Nat.le_refl _) _).alloc (by simp) _, (HBS.out.alloc (Nat.le_refl _) _).alloc (by simp) _, by simp⟩
  clear HBS
  generalize (w.alloc (.cells #[.int .u64 0, .int .i64 0, .int .u64 0, .int .u64 0, .int .i64 0, .int .i64 0, .slice none 0 0, .slice none 0 0, .int .u64 0] 34)).alloc (.cells #[.int .u64 0, .int .i64 (by_ l 0 : Int), .int .u64 0, .int .u64 0, .int .i64 0, .int .i64 0, .slice none 0 0, .slice none 0 0, .int .u64 0] 34) = w1 at *
  have H1 := Lib.hid h0
  clear h0 hc0
  have hx1 : w1.cell? ⟨w.heap.size + 1, 1, none⟩ = some (.int .i64 (by_ l 0 : Int)) := H1.out.r5.cell 1
  have hd1 : decide ((by_ l 0 : Int) < 1) = false := by simp; omega
  have hd2 : decide (4 < (by_ l 0 : Int)) = false := by simp; omega
  have hd3 : decide ((n : Int) < 25) = false := by simp; omega
  have hd4 : decide ((by_ l 0 : Int) ≤ 2) = true := by simp; omega
  have hd5 : decide ((n : Int) < 28) = false := by simp; omega
  have hd6 : ((by_ l 0 : Int) == 1) = false := by simp; omega
  have hd7 : ((by_ l 0 : Int) == 2) = true := by simp; omega

  go_upto_region 8 with fail
  have hc9 : (9 : Int) ≤ (c : Int) := by omega
  have hc17 : (17 : Int) ≤ (c : Int) := by omega
  have hc25 : (25 : Int) ≤ (c : Int) := by omega
  have hne1 : ¬ c = 1 := by omega
  have hne9 : ¬ c = 9 := by omega
  have hne17 : ¬ c = 17 := by omega
  refine wp_region_held_drew (S := fun _ => True) (by kernel_rfl) trivial (fun hHeld => ?_)
  have H2 := Lib.hid H1.out.drew
  generalize w1.drew = w2 at *
  refine wpAnyH_take (i := 0) (oi := ⟨some 31, _, _, _, _, _⟩) (v := ?v0r8) rfl (by kernel_rfl) (by kernel_rfl) (by kernel_rfl) (fun _ _ _ h => h) (Or.inl ⟨by rfl, ?y0r8⟩) trivial ?r0r8
  case y0r8 =>
    rintro w' hSw
    go_simp
    try with_reducible rfl
  try simp only [Act.put, List.setIfInBounds_toArray, List.set_cons_zero, List.set_cons_succ]
  refine wpAnyH_take (i := 1) (oi := ⟨some 32, _, _, _, _, _⟩) (v := ?v1r8) rfl (by kernel_rfl) (by kernel_rfl) (by kernel_rfl) (fun _ _ _ h => h) (Or.inl ⟨by rfl, ?y1r8⟩) trivial ?r1r8
  case y1r8 =>
    rintro w' hSw
    go_simp
    try with_reducible rfl
  try simp only [Act.put, List.setIfInBounds_toArray, List.set_cons_zero, List.set_cons_succ]
  refine wpAnyH_take (i := 3) (oi := ⟨some 34, _, _, _, _, _⟩) (v := ?v3r8) rfl (by kernel_rfl) (by kernel_rfl) (by kernel_rfl) (fun _ _ _ h => h) (Or.inl ⟨by rfl, ?y3r8⟩) trivial ?r3r8
  case y3r8 =>
    rintro w' hSw
    go_simp
    try with_reducible rfl
  try simp only [Act.put, List.setIfInBounds_toArray, List.set_cons_zero, List.set_cons_succ]
  refine wpAnyH_take (i := 4) (oi := ⟨some 35, _, _, _, _, _⟩) (v := ?v4r8) rfl (by kernel_rfl) (by kernel_rfl) (by kernel_rfl) (fun _ _ _ h => h) (Or.inl ⟨by rfl, ?y4r8⟩) trivial ?r4r8
  case y4r8 =>
    rintro w' hSw
    go_simp
    try with_reducible rfl
  try simp only [Act.put, List.setIfInBounds_toArray, List.set_cons_zero, List.set_cons_succ]
  refine wpAnyH_take (i := 6) (oi := ⟨some 37, _, _, _, _, _⟩) (v := ?v6r8) rfl (by kernel_rfl) (by kernel_rfl) (by kernel_rfl) (fun _ _ _ h => h) (Or.inl ⟨by rfl, ?y6r8⟩) trivial ?r6r8
  case y6r8 =>
    rintro w' hSw
    go_simp
    try with_reducible rfl
  try simp only [Act.put, List.setIfInBounds_toArray, List.set_cons_zero, List.set_cons_succ]
  refine wpAnyH_take (i := 7) (oi := ⟨some 38, _, _, _, _, _⟩) (v := ?v7r8) rfl (by kernel_rfl) (by kernel_rfl) (by kernel_rfl) (fun _ _ _ h => h) (Or.inl ⟨by rfl, ?y7r8⟩) trivial ?r7r8
  case y7r8 =>
    rintro w' hSw
    go_simp
    try with_reducible rfl
  try simp only [Act.put, List.setIfInBounds_toArray, List.set_cons_zero, List.set_cons_succ]
  refine wpAnyH_ready (rs := [2]) (by kernel_rfl) (by simp) ?_
  refine AllReadyH.cons rfl (fun K hK => ?_) AllReadyH.nil
  go_simp
  refine (num_any (some ⟨b, o + 1, none⟩) (sl l 1 8) 8 (c - 1) w.heap.size w2 (sl_len l 1 8 (by have := HL.out; omega)) (by omega) (H2.out.cut 1 8 (by have := HL.out; omega))).mono ?_
  rintro e w3 ⟨rfl, hst⟩
  have H3 := H2
  rw [hst] at H3
  clear hst
  refine hK _ _ trivial (fun _ => ?_)
  clear hK K
  try simp only [Act.put, List.setIfInBounds_toArray, List.set_cons_zero, List.set_cons_succ]
  refine wpAnyH_take (i := 9) (oi := ⟨some 40, _, _, _, _, _⟩) (v := ?v9r8) rfl (by kernel_rfl) (by kernel_rfl) (by kernel_rfl) (fun _ _ _ h => h) (Or.inl ⟨by rfl, ?y9r8⟩) trivial ?r9r8
  case y9r8 =>
    rintro w' hSw
    go_simp
    try with_reducible rfl
  try simp only [Act.put, List.setIfInBounds_toArray, List.set_cons_zero, List.set_cons_succ]
  refine wpAnyH_ready (rs := [5]) (by kernel_rfl) (by simp) ?_
  refine AllReadyH.cons rfl (fun K hK => ?_) AllReadyH.nil
  go_simp
  refine (num_any (some ⟨b, o + 9, none⟩) (sl l 9 8) 8 (c - 9) w.heap.size w3 (sl_len l 9 8 (by have := HL.out; omega)) (by omega) (H3.out.cut 9 8 (by have := HL.out; omega))).mono ?_
  rintro e w4 ⟨rfl, hst⟩
  have H4 := H3
  rw [hst] at H4
  clear hst
  refine hK _ _ trivial (fun _ => ?_)
  clear hK K
  try simp only [Act.put, List.setIfInBounds_toArray, List.set_cons_zero, List.set_cons_succ]
  refine wpAnyH_ready (rs := [8]) (by kernel_rfl) (by simp) ?_
  refine AllReadyH.cons rfl (fun K hK => ?_) AllReadyH.nil
  go_simp
  refine (num_any (some ⟨b, o + 17, none⟩) (sl l 17 8) 8 (c - 17) w.heap.size w4 (sl_len l 17 8 (by have := HL.out; omega)) (by omega) (H4.out.cut 17 8 (by have := HL.out; omega))).mono ?_
  rintro e w5 ⟨rfl, hst⟩
  have H5 := H4
  rw [hst] at H5
  clear hst
  refine hK _ _ trivial (fun _ => ?_)
  clear hK K
  try simp only [Act.put, List.setIfInBounds_toArray, List.set_cons_zero, List.set_cons_succ]
  refine wpAnyH_ready (rs := [10]) (by kernel_rfl) (by simp) ?_
  refine AllReadyH.cons rfl (fun K hK => ?_) AllReadyH.nil
  have hcl : w5.cell? ⟨w.heap.size + 1, 0, none⟩ = some (.int .u64 0) := H5.out.r5.cell 0
  have hfr := H5.out.r5.frozen 0
  go_simp
  have H6 := Lib.hid (H5.out.set 0 (.int .u64 (num (sl l 1 8) : Int)))
  generalize w5.setCell ⟨w.heap.size + 1, 0, none⟩ (.int .u64 (num (sl l 1 8) : Int)) = w6 at H6 ⊢
  clear hcl hfr
  refine hK _ _ trivial (fun _ => ?_)
  clear hK K
  try simp only [Act.put, List.setIfInBounds_toArray, List.set_cons_zero, List.set_cons_succ]
  refine wpAnyH_take (i := 11) (oi := ⟨some 41, _, _, _, _, _⟩) (v := ?v11r8) rfl (by kernel_rfl) (by kernel_rfl) (by kernel_rfl) (fun _ _ _ h => h) (Or.inl ⟨by rfl, ?y11r8⟩) trivial ?r11r8
  case y11r8 =>
    rintro w' hSw
    go_simp
    try with_reducible rfl
  try simp only [Act.put, List.setIfInBounds_toArray, List.set_cons_zero, List.set_cons_succ]
  refine wpAnyH_ready (rs := [12]) (by kernel_rfl) (by simp) ?_
  refine AllReadyH.cons rfl (fun K hK => ?_) AllReadyH.nil
  have hcl : w6.cell? ⟨w.heap.size + 1, 2, none⟩ = some (.int .u64 0) := H6.out.r5.cell 2
  have hfr := H6.out.r5.frozen 2
  go_simp
  have H7 := Lib.hid (H6.out.set 2 (.int .u64 (num (sl l 9 8) : Int)))
  generalize w6.setCell ⟨w.heap.size + 1, 2, none⟩ (.int .u64 (num (sl l 9 8) : Int)) = w7 at H7 ⊢
  clear hcl hfr
  refine hK _ _ trivial (fun _ => ?_)
  clear hK K
  try simp only [Act.put, List.setIfInBounds_toArray, List.set_cons_zero, List.set_cons_succ]
  refine wpAnyH_take (i := 13) (oi := ⟨some 42, _, _, _, _, _⟩) (v := ?v13r8) rfl (by kernel_rfl) (by kernel_rfl) (by kernel_rfl) (fun _ _ _ h => h) (Or.inl ⟨by rfl, ?y13r8⟩) trivial ?r13r8
  case y13r8 =>
    rintro w' hSw
    go_simp
    try with_reducible rfl
  try simp only [Act.put, List.setIfInBounds_toArray, List.set_cons_zero, List.set_cons_succ]
  refine wpAnyH_ready (rs := [14]) (by kernel_rfl) (by simp) ?_
  refine AllReadyH.cons rfl (fun K hK => ?_) AllReadyH.nil
  have hcl : w7.cell? ⟨w.heap.size + 1, 3, none⟩ = some (.int .u64 0) := H7.out.r5.cell 3
  have hfr := H7.out.r5.frozen 3
  go_simp
  have H8 := Lib.hid (H7.out.set 3 (.int .u64 (num (sl l 17 8) : Int)))
  generalize w7.setCell ⟨w.heap.size + 1, 3, none⟩ (.int .u64 (num (sl l 17 8) : Int)) = w8 at H8 ⊢
  clear hcl hfr
  refine hK _ _ trivial (fun _ => ?_)
  clear hK K
  try simp only [Act.put, List.setIfInBounds_toArray, List.set_cons_zero, List.set_cons_succ]
  refine wpAnyH_done (by kernel_rfl) ?_ _
  have H9 := Lib.hid (show Dc w (some ⟨b, o, none⟩) l [.int .u64 (n8 l 1 : Int), .int .i64 (by_ l 0 : Int), .int .u64 (n8 l 9 : Int), .int .u64 (n8 l 17 : Int), .int .i64 0, .int .i64 0, .slice none 0 0, .slice none 0 0, .int .u64 0] w8 from H8.out)
  clear H1 H2 H3 H4 H5 H6 H7 H8
  have hx1w8 : w8.cell? ⟨w.heap.size + 1, 1, none⟩ = some (.int .i64 (by_ l 0 : Int)) := H9.out.r5.cell 1
  go_upto_region 13 with fail
  have hi25 : (25 : Int) < (n : Int) := by omega
  have hi26 : (26 : Int) < (n : Int) := by omega
  have hby25 := H9.out.byte 25 (by have := HL.out; omega)
  have hby26 := H9.out.byte 26 (by have := HL.out; omega)
  have hw25 : IntKind.i64.wrap (by_ l 25 : Int) = (by_ l 25 : Int) := by rw [IntKind.wrap_i64]; have := by_lt l 25; omega
  have hw26 : IntKind.i64.wrap (by_ l 26 : Int) = (by_ l 26 : Int) := by rw [IntKind.wrap_i64]; have := by_lt l 26; omega
  refine wp_region_held_drew (S := fun w' => w'.cell? ⟨b, o + 25, none⟩ = some (.int .u8 (by_ l 25 : Int)) ∧ w'.cell? ⟨b, o + 26, none⟩ = some (.int .u8 (by_ l 26 : Int))) (by kernel_rfl) ⟨hby25, hby26⟩ (fun hHeld => ?_)
  have H10 := Lib.hid H9.out.drew
  generalize w8.drew = w10 at *
  refine wpAnyH_take (i := 0) (oi := ⟨some 50, _, _, _, _, _⟩) (v := ?v0r13) rfl (by kernel_rfl) (by kernel_rfl) (by kernel_rfl) (fun _ _ _ h => h) (Or.inl ⟨by rfl, ?y0r13⟩) hHeld ?r0r13
  case y0r13 =>
    rintro w' hSw
    go_simp
    try with_reducible rfl
  try simp only [Act.put, List.setIfInBounds_toArray, List.set_cons_zero, List.set_cons_succ]
  refine wpAnyH_take (i := 1) (oi := ⟨some 51, _, _, _, _, _⟩) (v := ?v1r13) rfl (by kernel_rfl) (by kernel_rfl) (by kernel_rfl) (fun _ _ _ h => h) (Or.inl ⟨by rfl, ?y1r13⟩) hHeld ?r1r13
  case y1r13 =>
    rintro w' hSw
    go_simp
    try with_reducible rfl
  try simp only [Act.put, List.setIfInBounds_toArray, List.set_cons_zero, List.set_cons_succ]
  refine wpAnyH_take (i := 2) (oi := ⟨some 52, _, _, _, _, _⟩) (v := ?v2r13) rfl (by kernel_rfl) (by kernel_rfl) (by kernel_rfl) (fun _ _ _ h => h) (Or.inl ⟨by rfl, ?y2r13⟩) hHeld ?r2r13
  case y2r13 =>
    rintro w' hSw
    have c25 := hSw.1
    go_simp
    try with_reducible rfl
  try simp only [Act.put, List.setIfInBounds_toArray, List.set_cons_zero, List.set_cons_succ]
  refine wpAnyH_take (i := 3) (oi := ⟨some 53, _, _, _, _, _⟩) (v := ?v3r13) rfl (by kernel_rfl) (by kernel_rfl) (by kernel_rfl) (fun _ _ _ h => h) (Or.inl ⟨by rfl, ?y3r13⟩) hHeld ?r3r13
  case y3r13 =>
    rintro w' hSw
    go_simp
    try with_reducible rfl
  try simp only [Act.put, List.setIfInBounds_toArray, List.set_cons_zero, List.set_cons_succ]
  refine wpAnyH_take (i := 4) (oi := ⟨some 54, _, _, _, _, _⟩) (v := ?v4r13) rfl (by kernel_rfl) (by kernel_rfl) (by kernel_rfl) (fun _ _ _ h => h) (Or.inl ⟨by rfl, ?y4r13⟩) hHeld ?r4r13
  case y4r13 =>
    rintro w' hSw
    go_simp
    try with_reducible rfl
  try simp only [Act.put, List.setIfInBounds_toArray, List.set_cons_zero, List.set_cons_succ]
  refine wpAnyH_take (i := 5) (oi := ⟨some 55, _, _, _, _, _⟩) (v := ?v5r13) rfl (by kernel_rfl) (by kernel_rfl) (by kernel_rfl) (fun _ _ _ h => h) (Or.inl ⟨by rfl, ?y5r13⟩) hHeld ?r5r13
  case y5r13 =>
    rintro w' hSw
    go_simp
    try with_reducible rfl
  try simp only [Act.put, List.setIfInBounds_toArray, List.set_cons_zero, List.set_cons_succ]
  refine wpAnyH_take (i := 6) (oi := ⟨some 56, _, _, _, _, _⟩) (v := ?v6r13) rfl (by kernel_rfl) (by kernel_rfl) (by kernel_rfl) (fun _ _ _ h => h) (Or.inl ⟨by rfl, ?y6r13⟩) hHeld ?r6r13
  case y6r13 =>
    rintro w' hSw
    have c26 := hSw.2
    go_simp
    try with_reducible rfl
  try simp only [Act.put, List.setIfInBounds_toArray, List.set_cons_zero, List.set_cons_succ]
  refine wpAnyH_take (i := 7) (oi := ⟨some 57, _, _, _, _, _⟩) (v := ?v7r13) rfl (by kernel_rfl) (by kernel_rfl) (by kernel_rfl) (fun _ _ _ h => h) (Or.inl ⟨by rfl, ?y7r13⟩) hHeld ?r7r13
  case y7r13 =>
    rintro w' hSw
    go_simp
    try with_reducible rfl
  try simp only [Act.put, List.setIfInBounds_toArray, List.set_cons_zero, List.set_cons_succ]
  refine wpAnyH_take (i := 8) (oi := ⟨some 58, _, _, _, _, _⟩) (v := ?v8r13) rfl (by kernel_rfl) (by kernel_rfl) (by kernel_rfl) (fun _ _ _ h => h) (Or.inl ⟨by rfl, ?y8r13⟩) hHeld ?r8r13
  case y8r13 =>
    rintro w' hSw
    go_simp
    try with_reducible rfl
  try simp only [Act.put, List.setIfInBounds_toArray, List.set_cons_zero, List.set_cons_succ]
  refine wpAnyH_ready (rs := [9]) (by kernel_rfl) (by simp) ?_
  refine AllReadyH.cons rfl (fun K hK => ?_) AllReadyH.nil
  have hcl : w10.cell? ⟨w.heap.size + 1, 4, none⟩ = some (.int .i64 0) := H10.out.r5.cell 4
  have hfr := H10.out.r5.frozen 4
  go_simp
  have H11 := Lib.hid (H10.out.set 4 (.int .i64 (by_ l 25 : Int)))
  generalize w10.setCell ⟨w.heap.size + 1, 4, none⟩ (.int .i64 (by_ l 25 : Int)) = w11 at H11 ⊢
  clear hcl hfr
  have hS11 := (show _ ∧ _ from ⟨H11.out.byte 25 (by have := HL.out; omega), H11.out.byte 26 (by have := HL.out; omega)⟩)
  refine hK _ _ hS11 (fun _ => ?_)
  clear hK K
  try simp only [Act.put, List.setIfInBounds_toArray, List.set_cons_zero, List.set_cons_succ]
  refine wpAnyH_take (i := 10) (oi := ⟨some 59, _, _, _, _, _⟩) (v := ?v10r13) rfl (by kernel_rfl) (by kernel_rfl) (by kernel_rfl) (fun _ _ _ h => h) (Or.inl ⟨by rfl, ?y10r13⟩) hS11 ?r10r13
  case y10r13 =>
    rintro w' hSw
    go_simp
    try with_reducible rfl
  try simp only [Act.put, List.setIfInBounds_toArray, List.set_cons_zero, List.set_cons_succ]
  refine wpAnyH_ready (rs := [11]) (by kernel_rfl) (by simp) ?_
  refine AllReadyH.cons rfl (fun K hK => ?_) AllReadyH.nil
  have hcl : w11.cell? ⟨w.heap.size + 1, 5, none⟩ = some (.int .i64 0) := H11.out.r5.cell 5
  have hfr := H11.out.r5.frozen 5
  go_simp
  have H12 := Lib.hid (H11.out.set 5 (.int .i64 (by_ l 26 : Int)))
  generalize w11.setCell ⟨w.heap.size + 1, 5, none⟩ (.int .i64 (by_ l 26 : Int)) = w12 at H12 ⊢
  clear hcl hfr
  have hS12 := (show _ ∧ _ from ⟨H12.out.byte 25 (by have := HL.out; omega), H12.out.byte 26 (by have := HL.out; omega)⟩)
  refine hK _ _ hS12 (fun _ => ?_)
  clear hK K
  try simp only [Act.put, List.setIfInBounds_toArray, List.set_cons_zero, List.set_cons_succ]
  refine wpAnyH_done (by kernel_rfl) ?_ _
  have H13 := Lib.hid (show Dc w (some ⟨b, o, none⟩) l [.int .u64 (n8 l 1 : Int), .int .i64 (by_ l 0 : Int), .int .u64 (n8 l 9 : Int), .int .u64 (n8 l 17 : Int), .int .i64 (by_ l 25 : Int), .int .i64 (by_ l 26 : Int), .slice none 0 0, .slice none 0 0, .int .u64 0] w12 from H12.out)
  clear hS11 hS12 H9 H10 H11 H12 hby25 hby26
  have hx1w12 : w12.cell? ⟨w.heap.size + 1, 1, none⟩ = some (.int .i64 (by_ l 0 : Int)) := H13.out.r5.cell 1
  have hby27 := H13.out.byte 27 (by have := HL.out; omega)
  have hi27 : (27 : Int) < (n : Int) := by omega
  have hb27 : by_ l 27 < 256 := by_lt l 27
  have hle28 : (27 : Int) + 1 + (by_ l 27 : Int) ≤ (c : Int) := by omega
  have hc28 : (28 : Int) ≤ (c : Int) := by omega
  have hxi : w12.cell? ⟨w.heap.size + 1, 7, none⟩ = some (.slice none 0 0) := H13.out.r5.cell 7
  have hfi := H13.out.r5.frozen 7
  have hcc := hc28e.out
  subst hcc
  go_upto_region 25 with fail
  have H14x := Lib.hid (H13.out.set 7 (.slice (some ⟨b, o, none⟩) (by_ l 27) 0))
  generalize w12.setCell ⟨w.heap.size + 1, 7, none⟩ (.slice (some ⟨b, o, none⟩) (by_ l 27) 0) = w13 at H14x ⊢
  have H14 := Lib.hid (show Dc w (some ⟨b, o, none⟩) l [.int .u64 (n8 l 1 : Int), .int .i64 (by_ l 0 : Int), .int .u64 (n8 l 9 : Int), .int .u64 (n8 l 17 : Int), .int .i64 (by_ l 25 : Int), .int .i64 (by_ l 26 : Int), .slice none 0 0, .slice (some ⟨b, o, none⟩) (by_ l 27) 0, .int .u64 0] w13 from H14x.out)
  clear H14x hxi hfi
  have hx1w13 : w13.cell? ⟨w.heap.size + 1, 1, none⟩ = some (.int .i64 (by_ l 0 : Int)) := H14.out.r5.cell 1
  have HI := Lib.hid (show (Try.prog.info? 34).map (·.size) = some (rcs zeroR zeroS).length from rec_info)
  have HLE := Lib.hid (show (rcs zeroR zeroS).length = (rcs zeroR zeroS).length from rfl)
  have HONE : Hid (∀ v ∈ (rcs zeroR zeroS), v.oneCell' = true) := rcs_one
  have HR2 := Lib.hid H14.out.r2
  go_wp2_with (with_reducible refine wpList_store_whole (op := ⟨none, _, _, _, _, _⟩) ?_ 34 (.tmp 2) (.tmp 124) ?_ w.heap.size (rcs zeroR zeroS) ?_ ?_ 34 (rcs zeroR zeroS) HR2.out HLE.out HONE.out HI.out ?_)
  all_goals try (first | rfl | (simp; done))
  intro w8 hr8 hg8
  have HRES := Lib.hid (run_loadVar_mid (P := Try.prog) w8 w.heap.size 0 34 (rcs zeroR zeroS) _ (Row.all hr8) Try.underlying34 rfl HI.out)
  have HB8 := Lib.hid (below_grown2 H14.out.hb hg8)
  clear hr8 hg8
  go_wp2
  refine bodyPost_ret (v := .tuple #[.agg (rcs zeroR zeroS).toArray, .int .i64 0, .int .i64 7]) (res_cell_tmp2 (p := 2) (q := 3) (q2 := 4) (ty := 34) rfl _ _ ⟨w.heap.size, 0, none⟩ _ _ _ rfl HRES.out rfl rfl) rfl ?_
  exact dec_err HZ.out (by decide) HB8.out


set_option maxHeartbeats 4000000 in
theorem dec_2whole (b o n c : Nat) (l : List UInt8) (w : World) (hl : l.length = n) (hnc : n ≤ c) (hcm : c ≤ 140737488351232) (hb : Bs w w.heap.size (some ⟨b, o, none⟩) l) (hlt : b < w.heap.size) (hn : 0 < n) (hk : by_ l 0 = 2) (h28 : 36 + by_ l 27 ≤ n) :
    Calls Try.prog 44 #[.slice (some ⟨b, o, none⟩) n c] w (DecOut w (recM l 0)) := by
  have mixed : Try.prog.follows .mixedOrders = true := by kernel_rfl
  have HL := Lib.hid hl
  have hn0 : ((n : Int) == 0) = false := by simp; omega
  have hnn : 0 < (n : Int) := by omega
  have hc0 : w.cell? ⟨b, o, none⟩ = some (.int .u8 (by_ l 0 : Int)) := by
    obtain ⟨b', o', e, _, hc⟩ := hb (by omega)
    cases e
    have := hc 0 (by omega)
    simpa [by_] using this
  have hk256 : by_ l 0 < 256 := by_lt l 0
  have HZ := Lib.hid (whole2 l hk (by omega))
  have hkb : 2 ≤ by_ l 0 ∧ by_ l 0 ≤ 2 := by omega
  clear hk
  have HBS := Lib.hid hb
  clear hl hb
  go_enter Try.func44, Try.ntmps44
  go_upto_region 4 with fail
  have h0 : Dc w (some ⟨b, o, none⟩) l [.int .u64 0, .int .i64 (by_ l 0 : Int), .int .u64 0, .int .u64 0, .int .i64 0, .int .i64 0, .slice none 0 0, .slice none 0 0, .int .u64 0] ((w.alloc (.cells #[.int .u64 0, .int .i64 0, .int .u64 0, .int .u64 0, .int .i64 0, .int .i64 0, .slice none 0 0, .slice none 0 0, .int .u64 0] 34)).alloc (.cells #[.int .u64 0, .int .i64 (by_ l 0 : Int), .int .u64 0, .int .u64 0, .int .i64 0, .int .i64 0, .slice none 0 0, .slice none 0 0, .int .u64 0] 34)) := ⟨(Row.new w _ _).alloc _, by
    have := Row.new (w.alloc (.cells #[.int .u64 0, .int .i64 0, .int .u64 0, .int .u64 0, .int .i64 0, .int .i64 0, .slice none 0 0, .slice none 0 0, .int .u64 0] 34)) 34 [.int .u64 0, .int .i64 (by_ l 0 : Int), .int .u64 0, .int .u64 0, .int .i64 0, .int .i64 0, .slice none 0 0, .slice none 0 0, .int .u64 0]
    rwa [World.size_alloc] at this, ((Below.refl _ _).alloc (Nat.le_refl _) _).alloc (by simp) _, (HBS.out.alloc (Nat.le_refl _) _).alloc (by simp) _, by simp⟩
  clear HBS
  generalize (w.alloc (.cells #[.int .u64 0, .int .i64 0, .int .u64 0, .int .u64 0, .int .i64 0, .int .i64 0, .slice none 0 0, .slice none 0 0, .int .u64 0] 34)).alloc (.cells #[.int .u64 0, .int .i64 (by_ l 0 : Int), .int .u64 0, .int .u64 0, .int .i64 0, .int .i64 0, .slice none 0 0, .slice none 0 0, .int .u64 0] 34) = w1 at *
  have H1 := Lib.hid h0
  clear h0 hc0
  have hx1 : w1.cell? ⟨w.heap.size + 1, 1, none⟩ = some (.int .i64 (by_ l 0 : Int)) := H1.out.r5.cell 1
  have hd1 : decide ((by_ l 0 : Int) < 1) = false := by simp; omega
  have hd2 : decide (4 < (by_ l 0 : Int)) = false := by simp; omega
  have hd3 : decide ((n : Int) < 25) = false := by simp; omega
  have hd4 : decide ((by_ l 0 : Int) ≤ 2) = true := by simp; omega
  have hd5 : decide ((n : Int) < 28) = false := by simp; omega
  have hd6 : ((by_ l 0 : Int) == 1) = false := by simp; omega
  have hd7 : ((by_ l 0 : Int) == 2) = true := by simp; omega

  go_upto_region 8 with fail
  have hc9 : (9 : Int) ≤ (c : Int) := by omega
  have hc17 : (17 : Int) ≤ (c : Int) := by omega
  have hc25 : (25 : Int) ≤ (c : Int) := by omega
  have hne1 : ¬ c = 1 := by omega
  have hne9 : ¬ c = 9 := by omega
  have hne17 : ¬ c = 17 := by omega
  refine wp_region_held_drew (S := fun _ => True) (by kernel_rfl) trivial (fun hHeld => ?_)
  have H2 := Lib.hid H1.out.drew
  generalize w1.drew = w2 at *
  refine wpAnyH_take (i := 0) (oi := ⟨some 31, _, _, _, _, _⟩) (v := ?v0r8) rfl (by kernel_rfl) (by kernel_rfl) (by kernel_rfl) (fun _ _ _ h => h) (Or.inl ⟨by rfl, ?y0r8⟩) trivial ?r0r8
  case y0r8 =>
    rintro w' hSw
    go_simp
    try with_reducible rfl
  try simp only [Act.put, List.setIfInBounds_toArray, List.set_cons_zero, List.set_cons_succ]
  refine wpAnyH_take (i := 1) (oi := ⟨some 32, _, _, _, _, _⟩) (v := ?v1r8) rfl (by kernel_rfl) (by kernel_rfl) (by kernel_rfl) (fun _ _ _ h => h) (Or.inl ⟨by rfl, ?y1r8⟩) trivial ?r1r8
  case y1r8 =>
    rintro w' hSw
    go_simp
    try with_reducible rfl
  try simp only [Act.put, List.setIfInBounds_toArray, List.set_cons_zero, List.set_cons_succ]
  refine wpAnyH_take (i := 3) (oi := ⟨some 34, _, _, _, _, _⟩) (v := ?v3r8) rfl (by kernel_rfl) (by kernel_rfl) (by kernel_rfl) (fun _ _ _ h => h) (Or.inl ⟨by rfl, ?y3r8⟩) trivial ?r3r8
  case y3r8 =>
    rintro w' hSw
    go_simp
    try with_reducible rfl
  try simp only [Act.put, List.setIfInBounds_toArray, List.set_cons_zero, List.set_cons_succ]
  refine wpAnyH_take (i := 4) (oi := ⟨some 35, _, _, _, _, _⟩) (v := ?v4r8) rfl (by kernel_rfl) (by kernel_rfl) (by kernel_rfl) (fun _ _ _ h => h) (Or.inl ⟨by rfl, ?y4r8⟩) trivial ?r4r8
  case y4r8 =>
    rintro w' hSw
    go_simp
    try with_reducible rfl
  try simp only [Act.put, List.setIfInBounds_toArray, List.set_cons_zero, List.set_cons_succ]
  refine wpAnyH_take (i := 6) (oi := ⟨some 37, _, _, _, _, _⟩) (v := ?v6r8) rfl (by kernel_rfl) (by kernel_rfl) (by kernel_rfl) (fun _ _ _ h => h) (Or.inl ⟨by rfl, ?y6r8⟩) trivial ?r6r8
  case y6r8 =>
    rintro w' hSw
    go_simp
    try with_reducible rfl
  try simp only [Act.put, List.setIfInBounds_toArray, List.set_cons_zero, List.set_cons_succ]
  refine wpAnyH_take (i := 7) (oi := ⟨some 38, _, _, _, _, _⟩) (v := ?v7r8) rfl (by kernel_rfl) (by kernel_rfl) (by kernel_rfl) (fun _ _ _ h => h) (Or.inl ⟨by rfl, ?y7r8⟩) trivial ?r7r8
  case y7r8 =>
    rintro w' hSw
    go_simp
    try with_reducible rfl
  try simp only [Act.put, List.setIfInBounds_toArray, List.set_cons_zero, List.set_cons_succ]
  refine wpAnyH_ready (rs := [2]) (by kernel_rfl) (by simp) ?_
  refine AllReadyH.cons rfl (fun K hK => ?_) AllReadyH.nil
  go_simp
  refine (num_any (some ⟨b, o + 1, none⟩) (sl l 1 8) 8 (c - 1) w.heap.size w2 (sl_len l 1 8 (by have := HL.out; omega)) (by omega) (H2.out.cut 1 8 (by have := HL.out; omega))).mono ?_
  rintro e w3 ⟨rfl, hst⟩
  have H3 := H2
  rw [hst] at H3
  clear hst
  refine hK _ _ trivial (fun _ => ?_)
  clear hK K
  try simp only [Act.put, List.setIfInBounds_toArray, List.set_cons_zero, List.set_cons_succ]
  refine wpAnyH_take (i := 9) (oi := ⟨some 40, _, _, _, _, _⟩) (v := ?v9r8) rfl (by kernel_rfl) (by kernel_rfl) (by kernel_rfl) (fun _ _ _ h => h) (Or.inl ⟨by rfl, ?y9r8⟩) trivial ?r9r8
  case y9r8 =>
    rintro w' hSw
    go_simp
    try with_reducible rfl
  try simp only [Act.put, List.setIfInBounds_toArray, List.set_cons_zero, List.set_cons_succ]
  refine wpAnyH_ready (rs := [5]) (by kernel_rfl) (by simp) ?_
  refine AllReadyH.cons rfl (fun K hK => ?_) AllReadyH.nil
  go_simp
  refine (num_any (some ⟨b, o + 9, none⟩) (sl l 9 8) 8 (c - 9) w.heap.size w3 (sl_len l 9 8 (by have := HL.out; omega)) (by omega) (H3.out.cut 9 8 (by have := HL.out; omega))).mono ?_
  rintro e w4 ⟨rfl, hst⟩
  have H4 := H3
  rw [hst] at H4
  clear hst
  refine hK _ _ trivial (fun _ => ?_)
  clear hK K
  try simp only [Act.put, List.setIfInBounds_toArray, List.set_cons_zero, List.set_cons_succ]
  refine wpAnyH_ready (rs := [8]) (by kernel_rfl) (by simp) ?_
  refine AllReadyH.cons rfl (fun K hK => ?_) AllReadyH.nil
  go_simp
  refine (num_any (some ⟨b, o + 17, none⟩) (sl l 17 8) 8 (c - 17) w.heap.size w4 (sl_len l 17 8 (by have := HL.out; omega)) (by omega) (H4.out.cut 17 8 (by have := HL.out; omega))).mono ?_
  rintro e w5 ⟨rfl, hst⟩
  have H5 := H4
  rw [hst] at H5
  clear hst
  refine hK _ _ trivial (fun _ => ?_)
  clear hK K
  try simp only [Act.put, List.setIfInBounds_toArray, List.set_cons_zero, List.set_cons_succ]
  refine wpAnyH_ready (rs := [10]) (by kernel_rfl) (by simp) ?_
  refine AllReadyH.cons rfl (fun K hK => ?_) AllReadyH.nil
  have hcl : w5.cell? ⟨w.heap.size + 1, 0, none⟩ = some (.int .u64 0) := H5.out.r5.cell 0
  have hfr := H5.out.r5.frozen 0
  go_simp
  have H6 := Lib.hid (H5.out.set 0 (.int .u64 (num (sl l 1 8) : Int)))
  generalize w5.setCell ⟨w.heap.size + 1, 0, none⟩ (.int .u64 (num (sl l 1 8) : Int)) = w6 at H6 ⊢
  clear hcl hfr
  refine hK _ _ trivial (fun _ => ?_)
  clear hK K
  try simp only [Act.put, List.setIfInBounds_toArray, List.set_cons_zero, List.set_cons_succ]
  refine wpAnyH_take (i := 11) (oi := ⟨some 41, _, _, _, _, _⟩) (v := ?v11r8) rfl (by kernel_rfl) (by kernel_rfl) (by kernel_rfl) (fun _ _ _ h => h) (Or.inl ⟨by rfl, ?y11r8⟩) trivial ?r11r8
  case y11r8 =>
    rintro w' hSw
    go_simp
    try with_reducible rfl
  try simp only [Act.put, List.setIfInBounds_toArray, List.set_cons_zero, List.set_cons_succ]
  refine wpAnyH_ready (rs := [12]) (by kernel_rfl) (by simp) ?_
  refine AllReadyH.cons rfl (fun K hK => ?_) AllReadyH.nil
  have hcl : w6.cell? ⟨w.heap.size + 1, 2, none⟩ = some (.int .u64 0) := H6.out.r5.cell 2
  have hfr := H6.out.r5.frozen 2
  go_simp
  have H7 := Lib.hid (H6.out.set 2 (.int .u64 (num (sl l 9 8) : Int)))
  generalize w6.setCell ⟨w.heap.size + 1, 2, none⟩ (.int .u64 (num (sl l 9 8) : Int)) = w7 at H7 ⊢
  clear hcl hfr
  refine hK _ _ trivial (fun _ => ?_)
  clear hK K
  try simp only [Act.put, List.setIfInBounds_toArray, List.set_cons_zero, List.set_cons_succ]
  refine wpAnyH_take (i := 13) (oi := ⟨some 42, _, _, _, _, _⟩) (v := ?v13r8) rfl (by kernel_rfl) (by kernel_rfl) (by kernel_rfl) (fun _ _ _ h => h) (Or.inl ⟨by rfl, ?y13r8⟩) trivial ?r13r8
  case y13r8 =>
    rintro w' hSw
    go_simp
    try with_reducible rfl
  try simp only [Act.put, List.setIfInBounds_toArray, List.set_cons_zero, List.set_cons_succ]
  refine wpAnyH_ready (rs := [14]) (by kernel_rfl) (by simp) ?_
  refine AllReadyH.cons rfl (fun K hK => ?_) AllReadyH.nil
  have hcl : w7.cell? ⟨w.heap.size + 1, 3, none⟩ = some (.int .u64 0) := H7.out.r5.cell 3
  have hfr := H7.out.r5.frozen 3
  go_simp
  have H8 := Lib.hid (H7.out.set 3 (.int .u64 (num (sl l 17 8) : Int)))
  generalize w7.setCell ⟨w.heap.size + 1, 3, none⟩ (.int .u64 (num (sl l 17 8) : Int)) = w8 at H8 ⊢
  clear hcl hfr
  refine hK _ _ trivial (fun _ => ?_)
  clear hK K
  try simp only [Act.put, List.setIfInBounds_toArray, List.set_cons_zero, List.set_cons_succ]
  refine wpAnyH_done (by kernel_rfl) ?_ _
  have H9 := Lib.hid (show Dc w (some ⟨b, o, none⟩) l [.int .u64 (n8 l 1 : Int), .int .i64 (by_ l 0 : Int), .int .u64 (n8 l 9 : Int), .int .u64 (n8 l 17 : Int), .int .i64 0, .int .i64 0, .slice none 0 0, .slice none 0 0, .int .u64 0] w8 from H8.out)
  clear H1 H2 H3 H4 H5 H6 H7 H8
  have hx1w8 : w8.cell? ⟨w.heap.size + 1, 1, none⟩ = some (.int .i64 (by_ l 0 : Int)) := H9.out.r5.cell 1
  go_upto_region 13 with fail
  have hi25 : (25 : Int) < (n : Int) := by omega
  have hi26 : (26 : Int) < (n : Int) := by omega
  have hby25 := H9.out.byte 25 (by have := HL.out; omega)
  have hby26 := H9.out.byte 26 (by have := HL.out; omega)
  have hw25 : IntKind.i64.wrap (by_ l 25 : Int) = (by_ l 25 : Int) := by rw [IntKind.wrap_i64]; have := by_lt l 25; omega
  have hw26 : IntKind.i64.wrap (by_ l 26 : Int) = (by_ l 26 : Int) := by rw [IntKind.wrap_i64]; have := by_lt l 26; omega
  refine wp_region_held_drew (S := fun w' => w'.cell? ⟨b, o + 25, none⟩ = some (.int .u8 (by_ l 25 : Int)) ∧ w'.cell? ⟨b, o + 26, none⟩ = some (.int .u8 (by_ l 26 : Int))) (by kernel_rfl) ⟨hby25, hby26⟩ (fun hHeld => ?_)
  have H10 := Lib.hid H9.out.drew
  generalize w8.drew = w10 at *
  refine wpAnyH_take (i := 0) (oi := ⟨some 50, _, _, _, _, _⟩) (v := ?v0r13) rfl (by kernel_rfl) (by kernel_rfl) (by kernel_rfl) (fun _ _ _ h => h) (Or.inl ⟨by rfl, ?y0r13⟩) hHeld ?r0r13
  case y0r13 =>
    rintro w' hSw
    go_simp
    try with_reducible rfl
  try simp only [Act.put, List.setIfInBounds_toArray, List.set_cons_zero, List.set_cons_succ]
  refine wpAnyH_take (i := 1) (oi := ⟨some 51, _, _, _, _, _⟩) (v := ?v1r13) rfl (by kernel_rfl) (by kernel_rfl) (by kernel_rfl) (fun _ _ _ h => h) (Or.inl ⟨by rfl, ?y1r13⟩) hHeld ?r1r13
  case y1r13 =>
    rintro w' hSw
    go_simp
    try with_reducible rfl
  try simp only [Act.put, List.setIfInBounds_toArray, List.set_cons_zero, List.set_cons_succ]
  refine wpAnyH_take (i := 2) (oi := ⟨some 52, _, _, _, _, _⟩) (v := ?v2r13) rfl (by kernel_rfl) (by kernel_rfl) (by kernel_rfl) (fun _ _ _ h => h) (Or.inl ⟨by rfl, ?y2r13⟩) hHeld ?r2r13
  case y2r13 =>
    rintro w' hSw
    have c25 := hSw.1
    go_simp
    try with_reducible rfl
  try simp only [Act.put, List.setIfInBounds_toArray, List.set_cons_zero, List.set_cons_succ]
  refine wpAnyH_take (i := 3) (oi := ⟨some 53, _, _, _, _, _⟩) (v := ?v3r13) rfl (by kernel_rfl) (by kernel_rfl) (by kernel_rfl) (fun _ _ _ h => h) (Or.inl ⟨by rfl, ?y3r13⟩) hHeld ?r3r13
  case y3r13 =>
    rintro w' hSw
    go_simp
    try with_reducible rfl
  try simp only [Act.put, List.setIfInBounds_toArray, List.set_cons_zero, List.set_cons_succ]
  refine wpAnyH_take (i := 4) (oi := ⟨some 54, _, _, _, _, _⟩) (v := ?v4r13) rfl (by kernel_rfl) (by kernel_rfl) (by kernel_rfl) (fun _ _ _ h => h) (Or.inl ⟨by rfl, ?y4r13⟩) hHeld ?r4r13
  case y4r13 =>
    rintro w' hSw
    go_simp
    try with_reducible rfl
  try simp only [Act.put, List.setIfInBounds_toArray, List.set_cons_zero, List.set_cons_succ]
  refine wpAnyH_take (i := 5) (oi := ⟨some 55, _, _, _, _, _⟩) (v := ?v5r13) rfl (by kernel_rfl) (by kernel_rfl) (by kernel_rfl) (fun _ _ _ h => h) (Or.inl ⟨by rfl, ?y5r13⟩) hHeld ?r5r13
  case y5r13 =>
    rintro w' hSw
    go_simp
    try with_reducible rfl
  try simp only [Act.put, List.setIfInBounds_toArray, List.set_cons_zero, List.set_cons_succ]
  refine wpAnyH_take (i := 6) (oi := ⟨some 56, _, _, _, _, _⟩) (v := ?v6r13) rfl (by kernel_rfl) (by kernel_rfl) (by kernel_rfl) (fun _ _ _ h => h) (Or.inl ⟨by rfl, ?y6r13⟩) hHeld ?r6r13
  case y6r13 =>
    rintro w' hSw
    have c26 := hSw.2
    go_simp
    try with_reducible rfl
  try simp only [Act.put, List.setIfInBounds_toArray, List.set_cons_zero, List.set_cons_succ]
  refine wpAnyH_take (i := 7) (oi := ⟨some 57, _, _, _, _, _⟩) (v := ?v7r13) rfl (by kernel_rfl) (by kernel_rfl) (by kernel_rfl) (fun _ _ _ h => h) (Or.inl ⟨by rfl, ?y7r13⟩) hHeld ?r7r13
  case y7r13 =>
    rintro w' hSw
    go_simp
    try with_reducible rfl
  try simp only [Act.put, List.setIfInBounds_toArray, List.set_cons_zero, List.set_cons_succ]
  refine wpAnyH_take (i := 8) (oi := ⟨some 58, _, _, _, _, _⟩) (v := ?v8r13) rfl (by kernel_rfl) (by kernel_rfl) (by kernel_rfl) (fun _ _ _ h => h) (Or.inl ⟨by rfl, ?y8r13⟩) hHeld ?r8r13
  case y8r13 =>
    rintro w' hSw
    go_simp
    try with_reducible rfl
  try simp only [Act.put, List.setIfInBounds_toArray, List.set_cons_zero, List.set_cons_succ]
  refine wpAnyH_ready (rs := [9]) (by kernel_rfl) (by simp) ?_
  refine AllReadyH.cons rfl (fun K hK => ?_) AllReadyH.nil
  have hcl : w10.cell? ⟨w.heap.size + 1, 4, none⟩ = some (.int .i64 0) := H10.out.r5.cell 4
  have hfr := H10.out.r5.frozen 4
  go_simp
  have H11 := Lib.hid (H10.out.set 4 (.int .i64 (by_ l 25 : Int)))
  generalize w10.setCell ⟨w.heap.size + 1, 4, none⟩ (.int .i64 (by_ l 25 : Int)) = w11 at H11 ⊢
  clear hcl hfr
  have hS11 := (show _ ∧ _ from ⟨H11.out.byte 25 (by have := HL.out; omega), H11.out.byte 26 (by have := HL.out; omega)⟩)
  refine hK _ _ hS11 (fun _ => ?_)
  clear hK K
  try simp only [Act.put, List.setIfInBounds_toArray, List.set_cons_zero, List.set_cons_succ]
  refine wpAnyH_take (i := 10) (oi := ⟨some 59, _, _, _, _, _⟩) (v := ?v10r13) rfl (by kernel_rfl) (by kernel_rfl) (by kernel_rfl) (fun _ _ _ h => h) (Or.inl ⟨by rfl, ?y10r13⟩) hS11 ?r10r13
  case y10r13 =>
    rintro w' hSw
    go_simp
    try with_reducible rfl
  try simp only [Act.put, List.setIfInBounds_toArray, List.set_cons_zero, List.set_cons_succ]
  refine wpAnyH_ready (rs := [11]) (by kernel_rfl) (by simp) ?_
  refine AllReadyH.cons rfl (fun K hK => ?_) AllReadyH.nil
  have hcl : w11.cell? ⟨w.heap.size + 1, 5, none⟩ = some (.int .i64 0) := H11.out.r5.cell 5
  have hfr := H11.out.r5.frozen 5
  go_simp
  have H12 := Lib.hid (H11.out.set 5 (.int .i64 (by_ l 26 : Int)))
  generalize w11.setCell ⟨w.heap.size + 1, 5, none⟩ (.int .i64 (by_ l 26 : Int)) = w12 at H12 ⊢
  clear hcl hfr
  have hS12 := (show _ ∧ _ from ⟨H12.out.byte 25 (by have := HL.out; omega), H12.out.byte 26 (by have := HL.out; omega)⟩)
  refine hK _ _ hS12 (fun _ => ?_)
  clear hK K
  try simp only [Act.put, List.setIfInBounds_toArray, List.set_cons_zero, List.set_cons_succ]
  refine wpAnyH_done (by kernel_rfl) ?_ _
  have H13 := Lib.hid (show Dc w (some ⟨b, o, none⟩) l [.int .u64 (n8 l 1 : Int), .int .i64 (by_ l 0 : Int), .int .u64 (n8 l 9 : Int), .int .u64 (n8 l 17 : Int), .int .i64 (by_ l 25 : Int), .int .i64 (by_ l 26 : Int), .slice none 0 0, .slice none 0 0, .int .u64 0] w12 from H12.out)
  clear hS11 hS12 H9 H10 H11 H12 hby25 hby26
  have hx1w12 : w12.cell? ⟨w.heap.size + 1, 1, none⟩ = some (.int .i64 (by_ l 0 : Int)) := H13.out.r5.cell 1
  have hby27 := H13.out.byte 27 (by have := HL.out; omega)
  have hi27 : (27 : Int) < (n : Int) := by omega
  have hb27 : by_ l 27 < 256 := by_lt l 27
  have hxi : w12.cell? ⟨w.heap.size + 1, 7, none⟩ = some (.slice none 0 0) := H13.out.r5.cell 7
  have hfi := H13.out.r5.frozen 7
  have hne28 : ¬ c = 28 := by omega
  have hle28 : (27 : Int) + 1 + (by_ l 27 : Int) ≤ (c : Int) := by omega
  have hc28 : (28 : Int) ≤ (c : Int) := by omega
  go_upto_region 25 with fail
  have H14x := Lib.hid (H13.out.set 7 (.slice (some ⟨b, o + 28, none⟩) (by_ l 27) (c - 28)))
  generalize w12.setCell ⟨w.heap.size + 1, 7, none⟩ (.slice (some ⟨b, o + 28, none⟩) (by_ l 27) (c - 28)) = w13 at H14x ⊢
  have H14 := Lib.hid (show Dc w (some ⟨b, o, none⟩) l [.int .u64 (n8 l 1 : Int), .int .i64 (by_ l 0 : Int), .int .u64 (n8 l 9 : Int), .int .u64 (n8 l 17 : Int), .int .i64 (by_ l 25 : Int), .int .i64 (by_ l 26 : Int), .slice none 0 0, .slice (some ⟨b, o + 28, none⟩) (by_ l 27) (c - 28), .int .u64 0] w13 from H14x.out)
  clear H14x hxi hfi
  have hx1w13 : w13.cell? ⟨w.heap.size + 1, 1, none⟩ = some (.int .i64 (by_ l 0 : Int)) := H14.out.r5.cell 1
  have hle36 : (28 : Int) + (by_ l 27 : Int) + 8 ≤ (c : Int) := by omega
  have hne36 : ¬ c = 28 + by_ l 27 := by omega
  go_wp2_with fail
  refine (num_any (some ⟨b, o + (28 + by_ l 27), none⟩) (sl l (28 + by_ l 27) 8) 8 (c - (28 + by_ l 27)) w.heap.size w13 (sl_len l (28 + by_ l 27) 8 (by have := HL.out; omega)) (by omega) (H14.out.cut (28 + by_ l 27) 8 (by have := HL.out; omega))).mono ?_
  rintro e w14 ⟨rfl, rfl⟩
  have hx8 : w13.cell? ⟨w.heap.size + 1, 8, none⟩ = some (.int .u64 0) := H14.out.r5.cell 8
  have hf8 := H14.out.r5.frozen 8
  go_upto_region 30 with fail
  have H15x := Lib.hid (H14.out.set 8 (.int .u64 (num (sl l (28 + by_ l 27) 8) : Int)))
  generalize w13.setCell ⟨w.heap.size + 1, 8, none⟩ (.int .u64 (num (sl l (28 + by_ l 27) 8) : Int)) = w15 at H15x ⊢
  have H15 := Lib.hid (show Dc w (some ⟨b, o, none⟩) l [.int .u64 (n8 l 1 : Int), .int .i64 (by_ l 0 : Int), .int .u64 (n8 l 9 : Int), .int .u64 (n8 l 17 : Int), .int .i64 (by_ l 25 : Int), .int .i64 (by_ l 26 : Int), .slice none 0 0, .slice (some ⟨b, o + 28, none⟩) (by_ l 27) (c - 28), .int .u64 (n8 l (28 + by_ l 27) : Int)] w15 from H15x.out)
  clear H15x hx8 hf8 hx1w13
  have hx1w15 : w15.cell? ⟨w.heap.size + 1, 1, none⟩ = some (.int .i64 (by_ l 0 : Int)) := H15.out.r5.cell 1
  obtain ⟨R, hRe⟩ : ∃ R : RM, R = ⟨n8 l 1, (by_ l 0 : Int), n8 l 9, n8 l 17, (by_ l 25 : Int), (by_ l 26 : Int), [], sl l 28 (by_ l 27), n8 l (28 + by_ l 27)⟩ := ⟨_, rfl⟩
  obtain ⟨S, hSe⟩ : ∃ S : RS, S = ⟨none, 0, 0, some ⟨b, o + 28, none⟩, by_ l 27, c - 28⟩ := ⟨_, rfl⟩
  have HW5 : Hid (Row w15 (w.heap.size + 1) 34 (rcs R S)) := (show Row _ _ _ _ by rw [hRe, hSe]; exact H15.out.r5)
  have HREC : Hid (RecAt w15 w.heap.size R S) := (show RecAt _ _ _ _ by rw [hRe, hSe]; exact ⟨rfl, sl_len l 28 (by_ l 27) (by have := HL.out; omega), by show 0 ≤ _; omega, by show by_ l 27 ≤ _; omega, Bs.nil _ _ _, H15.out.cut 28 (by_ l 27) (by have := HL.out; omega), (fun _ => rfl), (fun hh => by cases hh)⟩)
  have HZR : Hid (recM l 0 = if okM R = true then (0, R, (28 + by_ l 27 + 8, 0)) else (150, zeroR, (28 + by_ l 27 + 8, 0))) := (show _ = _ by rw [hRe]; exact HZ.out)
  have HI := Lib.hid (show (Try.prog.info? 34).map (·.size) = some (rcs R S).length from rec_info)
  have HLE := Lib.hid (show (rcs R S).length = (rcs zeroR zeroS).length from rfl)
  have HONE : Hid (∀ v ∈ (rcs R S), v.oneCell' = true) := rcs_one
  clear hRe hSe
  go_wp2_with (with_reducible refine wpList_load_row (op := ⟨some 134, _, _, _, _, _⟩) ?_ 34 (.tmp 5) ?_ (w.heap.size + 1) 0 ?_ (rcs R S) _ (Row.all HW5.out) Try.underlying34 ?_ HI.out ?_)
  all_goals try (first | rfl | (simp; done))
  refine (right_any R S w.heap.size w15 HREC.out H15.out.hb.size).mono ?_
  rintro e wr ⟨rfl, hbr⟩
  have hsz : w.heap.size + 1 < w15.heap.size := by have := H15.out.hs; omega
  have HW2 := Lib.hid (H15.out.r2.below hbr (by omega))
  replace HW5 := Lib.hid (HW5.out.below hbr hsz)
  have HBB := Lib.hid (H15.out.hb.trans (hbr.mono H15.out.hb.size))
  replace HREC := Lib.hid ((HREC.out.below (hbr.mono H15.out.hb.size)).more HBB.out.size)
  clear hbr
  cases hK : okM R
  · have HK := Lib.hid hK
    have HZ7 : Hid ((recM l 0).1 = 150) := (show _ = _ by rw [HZR.out, hK]; rfl)
    have HI := Lib.hid (show (Try.prog.info? 34).map (·.size) = some (rcs zeroR zeroS).length from rec_info)
    have HLE := Lib.hid (show (rcs zeroR zeroS).length = zcs.length from rfl)
    have HW2z := Lib.hid (show Row wr w.heap.size 34 zcs from HW2.out)
    have HONE : Hid (∀ v ∈ (rcs zeroR zeroS), v.oneCell' = true) := rcs_one
    go_wp2_with (with_reducible refine wpList_store_whole (op := ⟨none, _, _, _, _, _⟩) ?_ 34 (.tmp 2) (.tmp 137) ?_ w.heap.size (rcs zeroR zeroS) ?_ ?_ 34 zcs HW2z.out HLE.out HONE.out HI.out ?_)
    all_goals try (first | rfl | (simp; done))
    intro wz hr8 hg8
    have HRES := Lib.hid (run_loadVar_mid (P := Try.prog) wz w.heap.size 0 34 (rcs zeroR zeroS) _ (Row.all hr8) Try.underlying34 rfl HI.out)
    have HB8 := Lib.hid (below_grown2 HBB.out hg8)
    clear hr8 hg8
    go_wp2
    refine bodyPost_ret (v := .tuple #[.agg (rcs zeroR zeroS).toArray, .int .i64 0, .int .i64 150]) (res_cell_tmp2 (p := 2) (q := 3) (q2 := 4) (ty := 34) rfl _ _ ⟨w.heap.size, 0, none⟩ _ _ _ rfl HRES.out rfl rfl) rfl ?_
    exact dec_err HZ7.out (by decide) HB8.out
  · have HZ7 : Hid (recM l 0 = (0, R, (28 + by_ l 27 + 8, 0))) := (show _ = _ by rw [HZR.out, if_pos hK])
    go_wp2_with (first
      | (with_reducible refine wpList_load_row (op := ⟨some 138, _, _, _, _, _⟩) ?_ 34 (.tmp 5) ?_ (w.heap.size + 1) 0 ?_ (rcs R S) _ (Row.all HW5.out) Try.underlying34 ?_ HI.out ?_)
      | (with_reducible refine wpList_store_whole (op := ⟨none, _, _, _, _, _⟩) ?_ 34 (.tmp 2) (.tmp 138) ?_ w.heap.size (rcs R S) ?_ ?_ 34 (rcs zeroR zeroS) HW2.out HLE.out HONE.out HI.out ?_))
    all_goals try (first | rfl | (simp; done))
    intro wz hr8 hg8
    have HRES := Lib.hid (run_loadVar_mid (P := Try.prog) wz w.heap.size 0 34 (rcs R S) _ (Row.all hr8) Try.underlying34 rfl HI.out)
    have HB8 := Lib.hid (below_grown2 HBB.out hg8)
    have HRE := Lib.hid ((RecAt.far (r0 := zeroR) (s0 := zeroS) HREC.out (Nat.le_refl _) HW2.out (w' := wz) (fun j hj hlt => hg8.block j hlt (fun e => hj (Option.some.inj e)))).more hg8.size)
    clear hr8 hg8
    go_wp2
    refine bodyPost_ret (v := .tuple #[.agg (rcs R S).toArray, .int .i64 ((28 : Int) + (by_ l 27 : Int) + 8), .int .i64 0]) (res_cell_tmp2 (p := 2) (q := 3) (q2 := 4) (ty := 34) rfl _ _ ⟨w.heap.size, 0, none⟩ _ _ _ rfl HRES.out rfl rfl) rfl ?_
    exact ⟨S, by rw [HZ7.out]; rfl, by rw [HZ7.out]; exact HRE.out, HB8.out⟩


set_option maxHeartbeats 4000000 in
theorem dec_0 (A : Option Addr) (n c : Nat) (l : List UInt8) (w : World) (hl : l.length = n) (hn : n = 0) :
    Calls Try.prog 44 #[.slice A n c] w (DecOut w (recM l 0)) := by
  have HZ := Lib.hid (recM_nil l (by omega))
  subst hn
  clear hl
  go_enter Try.func44, Try.ntmps44
  go_upto_region 1 with fail
  have h0 : Dz w (w.alloc (.cells #[.int .u64 0, .int .i64 0, .int .u64 0, .int .u64 0, .int .i64 0, .int .i64 0, .slice none 0 0, .slice none 0 0, .int .u64 0] 34)) := ⟨Row.new w _ _, (Below.refl _ _).alloc (Nat.le_refl _) _⟩
  generalize w.alloc (.cells #[.int .u64 0, .int .i64 0, .int .u64 0, .int .u64 0, .int .i64 0, .int .i64 0, .slice none 0 0, .slice none 0 0, .int .u64 0] 34) = w1 at *
  have H1 := Lib.hid h0
  clear h0
  have HI := Lib.hid (show (Try.prog.info? 34).map (·.size) = some (rcs zeroR zeroS).length from rec_info)
  have HLE := Lib.hid (show (rcs zeroR zeroS).length = (rcs zeroR zeroS).length from rfl)
  have HONE : Hid (∀ v ∈ (rcs zeroR zeroS), v.oneCell' = true) := rcs_one
  have HR2 := Lib.hid H1.out.r2
  go_wp2_with (with_reducible refine wpList_store_whole (op := ⟨none, _, _, _, _, _⟩) ?_ 34 (.tmp 2) (.tmp 12) ?_ w.heap.size (rcs zeroR zeroS) ?_ ?_ 34 (rcs zeroR zeroS) HR2.out HLE.out HONE.out HI.out ?_)
  all_goals try (first | rfl | (simp; done))
  intro w8 hr8 hg8
  have HRES := Lib.hid (run_loadVar_mid (P := Try.prog) w8 w.heap.size 0 34 (rcs zeroR zeroS) _ (Row.all hr8) Try.underlying34 rfl HI.out)
  have HB8 := Lib.hid (below_grown2 H1.out.hb hg8)
  clear hr8 hg8
  go_wp2
  refine bodyPost_ret (v := .tuple #[.agg (rcs zeroR zeroS).toArray, .int .i64 0, .int .i64 7]) (res_cell_tmp2 (p := 2) (q := 3) (q2 := 4) (ty := 34) rfl _ _ ⟨w.heap.size, 0, none⟩ _ _ _ rfl HRES.out rfl rfl) rfl ?_
  exact dec_err HZ.out (by decide) HB8.out

theorem ref_decode (A : Option Addr) (n c : Nat) (l : List UInt8) (w : World) (hl : l.length = n) (hnc : n ≤ c) (hcm : c ≤ 140737488351232) (hb : Bs w w.heap.size A l) :
    Calls Try.prog 44 #[.slice A n c] w (DecOut w (recM l 0)) := by
  by_cases hn : n = 0
  · exact dec_0 A n c l w hl hn
  have hn' : 0 < n := by omega
  obtain ⟨b, o, rfl, hlt, _⟩ := hb (by omega)
  by_cases h1 : by_ l 0 < 1
  · exact dec_kind0 b o n c l w hl hnc hcm hb hlt hn' h1
  by_cases h4 : 4 < by_ l 0
  · exact dec_kind4 b o n c l w hl hnc hcm hb hlt hn' h4
  by_cases h25 : n < 25
  · exact dec_25 b o n c l w hl hnc hcm hb hlt hn' ⟨by omega, by omega⟩ h25
  by_cases h3 : 3 ≤ by_ l 0
  · exact dec_34 b o n c l w hl hnc hcm hb hlt hn' ⟨h3, by omega⟩ (by omega)
  by_cases h28 : n < 28
  · exact dec_28 b o n c l w hl hnc hcm hb hlt hn' ⟨by omega, by omega⟩ (by omega) h28
  by_cases hk : by_ l 0 = 1
  · by_cases ho : n < 29 + by_ l 27
    · exact dec_1old b o n c l w hl hnc hcm hb hlt hn' hk (by omega) ho
    by_cases hw : n < 29 + by_ l 27 + by_ l (28 + by_ l 27)
    · exact dec_1new b o n c l w hl hnc hcm hb hlt hn' hk (by omega) hw
    · exact dec_1whole b o n c l w hl hnc hcm hb hlt hn' hk (by omega)
  · have hk2 : by_ l 0 = 2 := by omega
    by_cases ho : n < 28 + by_ l 27
    · exact dec_2new b o n c l w hl hnc hcm hb hlt hn' hk2 (by omega) ho
    by_cases hw : n < 36 + by_ l 27
    · by_cases hc : c = 28
      · exact dec_2next28 b o n c l w hl hnc hcm hb hlt hn' hk2 (by omega) hw hc (by omega)
      · exact dec_2next b o n c l w hl hnc hcm hb hlt hn' hk2 (by omega) hw hc
    · exact dec_2whole b o n c l w hl hnc hcm hb hlt hn' hk2 (by omega)
end Go.Proofs.Ytnljhopikjkflaa.Rec
