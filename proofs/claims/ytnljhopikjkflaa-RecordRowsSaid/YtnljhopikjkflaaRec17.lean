/-
  The reference's Row.
-/
import Derived.Test.YtnljhopikjkflaaRec15
import Derived.Deep.Cut
import Derived.Deep.CutRange
namespace Go.Proofs.Ytnljhopikjkflaa.Rec
set_option maxRecDepth 100000
open Go.RowKit Go.Proofs.Ytnljhopikjkflaa.Wd Go.Proofs.Ytnljhopikjkflaa.Oct Go.Proofs.Ytnljhopikjkflaa.Dsk

set_option maxHeartbeats 4000000 in
theorem refRow_any (A : Option Addr) (n c : Nat) (xs : List (RM × RS)) (w : World) (hn : xs.length = n) (hm : n ≤ 64) (hR : Rl w w.heap.size A xs) (hu : ∀ x ∈ xs, U4 x.1) (hok : ∀ x ∈ xs, okM x.1 = true) :
    Calls Try.prog 17 #[.slice A n c] w (Grew w w.heap.size (rowB n (xs.map (·.1)))) := by
  have HN := Lib.hid hn
  have HR := Lib.hid hR
  have HU := Lib.hid hu
  have HOK := Lib.hid hok
  have HLN : Hid ((xs.map (·.1)).length = n) := (show _ = _ by rw [List.length_map, hn])
  clear hn hR hu hok
  have hwn : IntKind.u64.wrap (n : Int) = (n : Int) := by rw [IntKind.wrap_u64]; omega
  have HHI := Lib.hid (high_any 2 n w (by omega) (by omega) (by simp [InU64]; omega))
  rw [show ((2 : Nat) : Int) = 2 from rfl] at HHI
  go_enter Try.func17, Try.ntmps17
  go_wp2_with fail
  refine HHI.out.mono ?_
  rintro e w3 hmd
  obtain ⟨v3, rfl, ho3, hb3⟩ := grew_made (base := w.heap.size) (Nat.le_refl _) (by simp [hi_length, maxLen]) hmd
  have HI3 : Hid (Own w3 w.heap.size v3 (rowB n ((xs.map (·.1)).take 0)) ∧ Below w.heap.size w w3) := ⟨by
    rw [List.take_zero]
    simpa [rowB] using ho3, hb3⟩
  clear ho3 hb3 hmd HHI
  go_wp2_with fail
  go_loopw [3, 4] (fun t3 t4 wr => ∃ (k : Nat) (v : Value), k ≤ n ∧ t3 = v ∧ t4 = .int .i64 (k : Int) ∧ Hid (Own wr w.heap.size v (rowB n ((xs.map (·.1)).take k)) ∧ Below w.heap.size w wr)) (fun _ t4 _ => n - (intOf t4).toNat)
  case atStart => exact ⟨0, _, by omega, rfl, rfl, HI3⟩
  case round =>
    obtain ⟨k, v, hk, rfl, rfl, HI⟩ := hrel
    clear HI3
    by_cases hlt : k < n
    case neg =>
      have h1 : ¬ (k : Int) < (n : Int) := by omega
      obtain rfl : k = n := by omega
      have HV : Hid (Own wr w.heap.size u3 (rowB k (xs.map (·.1)))) := (show Own _ _ _ _ by have := HI.out.1; rwa [List.take_of_length_le (by rw [HLN.out]; exact Nat.le_refl _)] at this)
      go_wp2
      go_ret
      exact ⟨_, rfl, HV.out, HI.out.2⟩
    have h1 : (k : Int) < (n : Int) := by omega
    have hk0 : 0 ≤ (k : Int) := by omega
    obtain ⟨x, hx⟩ : ∃ x, xs[k]? = some x := ⟨_, List.getElem?_eq_getElem (by rw [HN.out]; exact hlt)⟩
    obtain ⟨b, o, rfl, hblt, hc⟩ := HR.out.1 (by rw [HN.out]; omega)
    have HC : Hid (wr.rangeAt b (o + k * 9) [.int .u64 (x.1.lsn : Int), .int .i64 x.1.kind, .int .u64 (x.1.txn : Int), .int .u64 (x.1.back : Int), .int .i64 x.1.page, .int .i64 x.1.slot, .slice x.2.Ao x.2.no x.2.co, .slice x.2.An x.2.nn x.2.cn, .int .u64 (x.1.next : Int)]) := fun j v hj => (HI.out.2.cell (p := ⟨b, o + k * 9 + j, none⟩) hblt).trans (hc k x hx j v hj)
    have HIN := Lib.hid (show (Try.prog.info? 34).map (·.size) = some ([.int .u64 (x.1.lsn : Int), .int .i64 x.1.kind, .int .u64 (x.1.txn : Int), .int .u64 (x.1.back : Int), .int .i64 x.1.page, .int .i64 x.1.slot, .slice x.2.Ao x.2.no x.2.co, .slice x.2.An x.2.nn x.2.cn, .int .u64 (x.1.next : Int)] : List Value).length from rec_info)
    have HRX := Lib.hid (HR.out.2 x (List.mem_of_getElem? hx))
    have HUX := Lib.hid (HU.out x (List.mem_of_getElem? hx))
    have HOX := Lib.hid (HOK.out x (List.mem_of_getElem? hx))
    have HTS := Lib.hid (take_snoc hx)
    have HLE : Hid ((rowB n ((xs.map (·.1)).take k)).length ≤ 20000) := (show _ ≤ _ from by
      have h3 : ∀ r ∈ (xs.map (·.1)).take k, okM r = true := fun r hr => by
        obtain ⟨y, hy, rfl⟩ := List.mem_map.1 (List.mem_of_mem_take hr)
        exact HOK.out y hy
      have := rowB_le n h3
      have h4 : ((xs.map (·.1)).take k).length ≤ 64 := by rw [List.length_take]; omega
      omega)
    clear hc hx
    obtain ⟨r, s⟩ := x
    dsimp only at HC HIN HRX HUX HOX HTS
    have HBY := Lib.hid (bytes_ref r s w.heap.size wr (HRX.out.below HI.out.2) HI.out.2.size HOX.out HUX.out.u1 HUX.out.u2 HUX.out.u3 HUX.out.u4)
    unfold rcs at HBY
    obtain ⟨L9, hL9⟩ : ∃ L, L = rowB n ((xs.map (·.1)).take k) := ⟨_, rfl⟩
    rw [← hL9] at HI HLE
    have HLQ := Lib.hid hL9
    clear hL9
    go_wp2_with (with_reducible refine wpList_load_row (op := ⟨some 19, _, _, _, _, _⟩) ?_ 34 (.tmp 18) ?_ b (o + k * 9) ?_ [.int .u64 (r.lsn : Int), .int .i64 r.kind, .int .u64 (r.txn : Int), .int .u64 (r.back : Int), .int .i64 r.page, .int .i64 r.slot, .slice s.Ao s.no s.co, .slice s.An s.nn s.cn, .int .u64 (r.next : Int)] _ HC.out Try.underlying34 ?_ HIN.out ?_)
    all_goals try (first | rfl | (simp; done))
    refine HBY.out.mono ?_
    rintro e w9 ⟨v9, rfl, ho9, hb9⟩
    obtain ⟨A9, n9, c9, rfl, hl9, -, -, -, hbs9⟩ := ho9.open
    have HI9 : Hid (Own w9 w.heap.size u3 L9) := (World.ownsRow.kept (row := none) HI.out.1 ⟨hb9.os, hb9.tape, hb9.output, hb9.size, fun j hj _ => hb9.block j hj⟩ (by cases u3.ownBlock <;> simp))
    obtain ⟨A8, n8, c8, rfl, hl8, -, -, -, hbs8⟩ := HI9.out.open
    have HBO := Lib.hid (both_any A8 A9 L9 (bytesM r) c8 c9 n8 n9 w9 hl8 hl9 (by have := HLE.out; have := bytesM_le HOX.out; omega) hbs8 hbs9)
    have HW9 := Lib.hid (HI.out.2.trans (hb9.mono HI.out.2.size))
    have HL9b := Lib.hid (bytesM_le HOX.out)
    clear ho9 hb9 hl9 hbs9 hl8 hbs8 HBY HI HC HIN HI9
    go_wp2_with fail
    refine HBO.out.mono ?_
    rintro e w10 hmd
    obtain ⟨v10, rfl, ho10, hb10⟩ := grew_made (base := w9.heap.size) (Nat.le_refl _) (by rw [List.length_append]; have := HLE.out; have := HL9b.out; unfold maxLen; omega) hmd
    have HN10 : Hid (Own w10 w.heap.size v10 (rowB n ((xs.map (·.1)).take (k + 1))) ∧ Below w.heap.size w w10) := ⟨by
      rw [HTS.out, rowB_snoc, ← HLQ.out]
      exact ho10.mono HW9.out.size, HW9.out.trans (hb10.mono HW9.out.size)⟩
    clear ho10 hb10 hmd HBO
    go_wp2_with fail
    go_roundw
    case rel => exact ⟨k + 1, v10, by omega, rfl, by go_num, HN10⟩
    case measure => simp [intOf]; omega
end Go.Proofs.Ytnljhopikjkflaa.Rec
