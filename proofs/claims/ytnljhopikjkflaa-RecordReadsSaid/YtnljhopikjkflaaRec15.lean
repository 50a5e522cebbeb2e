/-
  CheckRow, EncodeRow.
-/
import Derived.Test.YtnljhopikjkflaaRec14
import Derived.Test.YtnljhopikjkflaaRec6
import Derived.Deep.Cut
import Derived.Deep.CutRange
namespace Go.Proofs.Ytnljhopikjkflaa.Rec
set_option maxRecDepth 100000
open Go.RowKit Go.Proofs.Ytnljhopikjkflaa.Wd Go.Proofs.Ytnljhopikjkflaa.Oct Go.Proofs.Ytnljhopikjkflaa.Dsk

def rowE (rs : List RM) : Int := if 64 < rs.length then 3 else if rowM rs = true then 0 else 150
theorem checkRow_any (A : Option Addr) (n c : Nat) (xs : List (RM × RS)) (w : World) (hn : xs.length = n) (hm : n ≤ 100000) (hR : Rl w w.heap.size A xs) (hu : ∀ x ∈ xs, U4 x.1) :
    Calls Try.prog 11 #[.slice A n c] w fun e w' => e = .returned (.int .i64 (rowE (xs.map (·.1)))) ∧ Below w.heap.size w w' := by
  have HRM := Lib.hid (rowMayBe_any A n c xs w hn hm hR hu)
  have HE : Hid (rowE (xs.map (·.1)) = if 64 < n then 3 else if rowM (xs.map (·.1)) = true then 0 else 150) := (show _ = _ by unfold rowE; rw [List.length_map, hn])
  rw [HE.out]
  clear hn hR hu HE
  by_cases h64 : 64 < n
  · rw [if_pos h64]
    have h : (64 : Int) < (n : Int) := by omega
    go_enter Try.func11, Try.ntmps11
    go_wp2
    go_ret
    exact ⟨rfl, Below.refl _ _⟩
  · rw [if_neg h64]
    have h : ¬ (64 : Int) < (n : Int) := by omega
    generalize rowM (xs.map (·.1)) = K at HRM ⊢
    cases K
    all_goals (
      simp only [if_true, Bool.false_eq_true, if_false]
      go_enter Try.func11, Try.ntmps11
      go_wp2_with fail
      refine HRM.out.mono ?_
      rintro e w2 ⟨rfl, hb⟩
      have HB := Lib.hid hb
      clear hb HRM
      go_wp2
      go_ret
      exact ⟨rfl, HB.out⟩)

/-- the bytes of the first k records, behind how many there are -/
def rowB (n : Nat) (rs : List RM) : List UInt8 := hi 2 n ++ (rs.map bytesM).flatten
theorem rowB_snoc (n : Nat) (rs : List RM) (r : RM) : rowB n (rs ++ [r]) = rowB n rs ++ bytesM r := by simp [rowB]
theorem bytesM_le {r : RM} (h : okM r = true) : (bytesM r).length ≤ 200 := by
  have h52 := (ok_parts r h).2.1
  unfold bytesM headM restM
  simp only [List.length_append, hi_length, List.length_singleton]
  have h1 : (itemM r.old).length ≤ 53 := by simp [itemM]; omega
  have h2 : (itemM r.new).length ≤ 53 := by simp [itemM]; omega
  split
  · simp; omega
  · split
    · simp [hi_length]; omega
    · simp
theorem rowB_le (n : Nat) {rs : List RM} (h : ∀ r ∈ rs, okM r = true) : (rowB n rs).length ≤ 2 + 200 * rs.length := by
  unfold rowB
  rw [List.length_append, hi_length]
  have : ∀ l : List RM, (∀ r ∈ l, okM r = true) → ((l.map bytesM).flatten).length ≤ 200 * l.length := by
    intro l hl
    induction l with
    | nil => simp
    | cons a t ih =>
      simp only [List.map_cons, List.flatten_cons, List.length_append, List.length_cons]
      have := bytesM_le (hl a (by simp))
      have := ih (fun r hr => hl r (by simp [hr]))
      omega
  have := this rs h
  omega
theorem rowM_ok {rs : List RM} (h : rowM rs = true) : ∀ r ∈ rs, okM r = true := fun r hr => by
  obtain ⟨i, hi, rfl⟩ := List.mem_iff_getElem.1 hr
  unfold rowM at h
  have h1 := of_decide_eq_true h i hi
  unfold rowS at h1
  rw [List.getElem?_eq_getElem hi] at h1
  simp only [Bool.and_eq_true] at h1
  exact h1.1.1
def EncR (w : World) (rs : List RM) (e : Ending) (w' : World) : Prop := ∃ v, e = .returned (.tuple #[v, .int .i64 (rowE rs)]) ∧ Own w' w.heap.size v (if rowE rs = 0 then rowB rs.length rs else []) ∧ Below w.heap.size w w'

set_option maxHeartbeats 4000000 in
theorem encodeRow_any (A : Option Addr) (n c : Nat) (xs : List (RM × RS)) (w : World) (hn : xs.length = n) (hm : n ≤ 100000) (hR : Rl w w.heap.size A xs) (hu : ∀ x ∈ xs, U4 x.1) :
    Calls Try.prog 9 #[.slice A n c] w (EncR w (xs.map (·.1))) := by
  obtain ⟨i0, hi0, hz0, hz1, hz2⟩ := info_parts info5
  have HCK := Lib.hid (checkRow_any A n c xs w hn hm hR hu)
  have HN := Lib.hid hn
  have HR := Lib.hid hR
  have HLN : Hid ((xs.map (·.1)).length = n) := (show _ = _ by rw [List.length_map, hn])
  clear hn hR hu
  unfold EncR
  obtain ⟨E, hE⟩ : ∃ E, E = rowE (xs.map (·.1)) := ⟨_, rfl⟩
  rw [← hE] at HCK ⊢
  by_cases h0 : E = 0
  case neg =>
    have hne : (E != 0) = true := by simp [h0]
    rw [if_neg h0]
    clear h0 hE
    go_enter Try.func9, Try.ntmps9
    go_wp2_with fail
    refine HCK.out.mono ?_
    rintro e w2 ⟨rfl, hb⟩
    have HB := Lib.hid hb
    clear hb HCK
    go_wp2
    exact bodyPost_ret (v := .tuple #[.slice none 0 0, .int .i64 E]) (by simp [results, Try.results9, go_sem]) rfl ⟨_, rfl, World.ownsRow_nil _ _ _ _, HB.out⟩
  have HE2 : Hid (n ≤ 64 ∧ rowM (xs.map (·.1)) = true) := (show _ ∧ _ by
    rw [h0] at hE
    unfold rowE at hE
    rw [HLN.out] at hE
    by_cases h64 : 64 < n
    · rw [if_pos h64] at hE; cases hE
    · rw [if_neg h64] at hE
      refine ⟨by omega, ?_⟩
      by_cases hr : rowM (xs.map (·.1)) = true
      · exact hr
      · rw [if_neg hr] at hE; cases hE)
  subst h0
  rw [if_pos rfl, HLN.out]
  have hn64 : n ≤ 64 := HE2.out.1
  have HOK : Hid (∀ x ∈ xs, okM x.1 = true) := (show ∀ x ∈ _, _ from fun x hx => rowM_ok HE2.out.2 x.1 (List.mem_map_of_mem hx))
  have hun : IntKind.u16.wrap (n : Int) = (n : Int) := by simp [IntKind.wrap, IntKind.signed, IntKind.bits]; omega
  have h00 : ((0 : Int) != 0) = false := by decide
  clear hE HE2
  go_enter Try.func9, Try.ntmps9
  go_wp2_with fail
  refine HCK.out.mono ?_
  rintro e w2 ⟨rfl, hb⟩
  have HB2 := Lib.hid hb
  clear hb HCK
  have HP := Lib.hid (put16_any none [] 0 0 n w2 rfl (by omega) (by omega) (Bs.nil _ _ _))
  go_wp2_with fail
  refine HP.out.mono ?_
  rintro e w3 hmd
  obtain ⟨v3, rfl, ho3, hb3⟩ := grew_made (base := w2.heap.size) (Nat.le_refl _) (by simp [hi_length, maxLen]) hmd
  have HI3 : Hid (Own w3 w.heap.size v3 (rowB n ((xs.map (·.1)).take 0)) ∧ Below w.heap.size w w3) := ⟨by
    have := ho3.mono HB2.out.size
    rw [List.nil_append] at this
    rw [List.take_zero]
    simpa [rowB] using this, HB2.out.trans (hb3.mono HB2.out.size)⟩
  clear ho3 hb3 hmd HP HB2
  go_wp2_with fail
  go_loopw [5, 19] (fun t5 t19 wr => ∃ (k : Nat) (v : Value), k ≤ n ∧ t5 = v ∧ t19 = .int .i64 (k : Int) ∧ Hid (Own wr w.heap.size v (rowB n ((xs.map (·.1)).take k)) ∧ Below w.heap.size w wr)) (fun _ t19 _ => n - (intOf t19).toNat)
  case atStart => exact ⟨0, _, by omega, rfl, rfl, HI3⟩
  case round =>
    obtain ⟨k, v, hk, rfl, rfl, HI⟩ := hrel
    clear HI3
    by_cases hlt : k < n
    case neg =>
      have h1 : ¬ (k : Int) < (n : Int) := by omega
      obtain rfl : k = n := by omega
      have HV : Hid (Own wr w.heap.size u5 (rowB k (xs.map (·.1)))) := (show Own _ _ _ _ by have := HI.out.1; rwa [List.take_of_length_le (by rw [HLN.out]; exact Nat.le_refl _)] at this)
      go_wp2
      exact bodyPost_ret (v := .tuple #[u5, .int .i64 0]) (by simp [results, Try.results9, go_sem]) rfl ⟨_, rfl, HV.out, HI.out.2⟩
    have h1 : (k : Int) < (n : Int) := by omega
    obtain ⟨x, hx⟩ : ∃ x, xs[k]? = some x := ⟨_, List.getElem?_eq_getElem (by rw [HN.out]; exact hlt)⟩
    obtain ⟨b, o, rfl, hblt, hc⟩ := HR.out.1 (by rw [HN.out]; omega)
    have HC : Hid (wr.rangeAt b (o + k * 9) [.int .u64 (x.1.lsn : Int), .int .i64 x.1.kind, .int .u64 (x.1.txn : Int), .int .u64 (x.1.back : Int), .int .i64 x.1.page, .int .i64 x.1.slot, .slice x.2.Ao x.2.no x.2.co, .slice x.2.An x.2.nn x.2.cn, .int .u64 (x.1.next : Int)]) := fun j v hj => (HI.out.2.cell (p := ⟨b, o + k * 9 + j, none⟩) hblt).trans (hc k x hx j v hj)
    have HIN := Lib.hid (show (Try.prog.info? 34).map (·.size) = some ([.int .u64 (x.1.lsn : Int), .int .i64 x.1.kind, .int .u64 (x.1.txn : Int), .int .u64 (x.1.back : Int), .int .i64 x.1.page, .int .i64 x.1.slot, .slice x.2.Ao x.2.no x.2.co, .slice x.2.An x.2.nn x.2.cn, .int .u64 (x.1.next : Int)] : List Value).length from rec_info)
    have HRX := Lib.hid (HR.out.2 x (List.mem_of_getElem? hx))
    have HOX := Lib.hid (HOK.out x (List.mem_of_getElem? hx))
    have HTS := Lib.hid (take_snoc hx)
    have HLE : Hid ((rowB n ((xs.map (·.1)).take k)).length ≤ 20000) := (show _ ≤ _ from by
      have h3 : ∀ r ∈ (xs.map (·.1)).take k, okM r = true := fun r hr => by
        obtain ⟨y, hy, rfl⟩ := List.mem_map.1 (List.mem_of_mem_take hr)
        exact HOK.out y hy
      have := rowB_le n h3
      have h4 : ((xs.map (·.1)).take k).length ≤ 64 := by rw [List.length_take]; omega
      omega)
    clear hc hx
    obtain ⟨r, s⟩ := x
    dsimp only at HC HIN HRX HOX HTS
    go_upto_region 8 with (with_reducible refine wpList_load_row (op := ⟨some 22, _, _, _, _, _⟩) ?_ 34 (.tmp 21) ?_ b (o + k * 9) ?_ [.int .u64 (r.lsn : Int), .int .i64 r.kind, .int .u64 (r.txn : Int), .int .u64 (r.back : Int), .int .i64 r.page, .int .i64 r.slot, .slice s.Ao s.no s.co, .slice s.An s.nn s.cn, .int .u64 (r.next : Int)] _ HC.out Try.underlying34 ?_ HIN.out ?_)
    all_goals try (first | rfl | (simp; done))
    have RX8 : Hid (Row (wr.alloc (.cells #[.int .u64 (r.lsn : Int), .int .i64 r.kind, .int .u64 (r.txn : Int), .int .u64 (r.back : Int), .int .i64 r.page, .int .i64 r.slot, .slice s.Ao s.no s.co, .slice s.An s.nn s.cn, .int .u64 (r.next : Int)] 34)) wr.heap.size 34 (rcs r s)) := Row.new wr _ _
    have HI8 : Hid (Own (wr.alloc (.cells #[.int .u64 (r.lsn : Int), .int .i64 r.kind, .int .u64 (r.txn : Int), .int .u64 (r.back : Int), .int .i64 r.page, .int .i64 r.slot, .slice s.Ao s.no s.co, .slice s.An s.nn s.cn, .int .u64 (r.next : Int)] 34)) w.heap.size u5 (rowB n ((xs.map (·.1)).take k)) ∧ Below w.heap.size w (wr.alloc (.cells #[.int .u64 (r.lsn : Int), .int .i64 r.kind, .int .u64 (r.txn : Int), .int .u64 (r.back : Int), .int .i64 r.page, .int .i64 r.slot, .slice s.Ao s.no s.co, .slice s.An s.nn s.cn, .int .u64 (r.next : Int)] 34))) := ⟨HI.out.1.alloc _, HI.out.2.alloc HI.out.2.size _⟩
    generalize wr.alloc (.cells #[.int .u64 (r.lsn : Int), .int .i64 r.kind, .int .u64 (r.txn : Int), .int .u64 (r.back : Int), .int .i64 r.page, .int .i64 r.slot, .slice s.Ao s.no s.co, .slice s.An s.nn s.cn, .int .u64 (r.next : Int)] 34) = w8 at RX8 HI8 ⊢
    generalize wr.heap.size = P8 at RX8 ⊢
    clear HI HC HIN
    have HBY := Lib.hid (bytesOf_any r s w.heap.size w8 (HRX.out.below HI8.out.2) HI8.out.2.size HOX.out)
    unfold rcs at HBY
    have ha0 : w8.cell? ⟨P8, 0, none⟩ = some (.int .u64 (r.lsn : Int)) := RX8.out.cell 0
    have ha1 : w8.cell? ⟨P8, 1, none⟩ = some (.int .i64 r.kind) := RX8.out.cell 1
    have ha2 : w8.cell? ⟨P8, 2, none⟩ = some (.int .u64 (r.txn : Int)) := RX8.out.cell 2
    have ha3 : w8.cell? ⟨P8, 3, none⟩ = some (.int .u64 (r.back : Int)) := RX8.out.cell 3
    have ha4 : w8.cell? ⟨P8, 4, none⟩ = some (.int .i64 r.page) := RX8.out.cell 4
    have ha5 : w8.cell? ⟨P8, 5, none⟩ = some (.int .i64 r.slot) := RX8.out.cell 5
    have ha6 : w8.cell? ⟨P8, 6, none⟩ = some (.slice s.Ao s.no s.co) := RX8.out.cell 6
    have ha7 : w8.cell? ⟨P8, 7, none⟩ = some (.slice s.An s.nn s.cn) := RX8.out.cell 7
    have ha8 : w8.cell? ⟨P8, 8, none⟩ = some (.int .u64 (r.next : Int)) := RX8.out.cell 8
    go_wp2_with fail
    refine HBY.out.mono ?_
    rintro e w9 ⟨v9, rfl, ho9, hb9⟩
    have HI9 : Hid (Own w9 w.heap.size u5 (rowB n ((xs.map (·.1)).take k)) ∧ Below w.heap.size w w9) := ⟨World.ownsRow.kept (row := none) HI8.out.1 ⟨hb9.os, hb9.tape, hb9.output, hb9.size, fun j hj _ => hb9.block j hj⟩ (by cases u5.ownBlock <;> simp), HI8.out.2.trans (hb9.mono HI8.out.2.size)⟩
    obtain ⟨A9, n9, c9, rfl, hl9, -, -, hn9, hbs9⟩ := ho9.open
    have HL9 := Lib.hid hl9
    have HBS9 := Lib.hid hbs9
    have HNN9 := Lib.hid hn9
    have HBL := Lib.hid (bytesM_le HOX.out)
    have HWS := Lib.hid HI9.out.2.size
    clear ho9 hb9 hl9 hn9 hbs9 HBY HI8 RX8
    obtain ⟨L9, hL9⟩ : ∃ L, L = rowB n ((xs.map (·.1)).take k) := ⟨_, rfl⟩
    rw [← hL9] at HI9 HLE
    have HLQ := Lib.hid hL9
    clear hL9
    go_wp2_with (first
      | (at_builtin; (refine wpList_append_bs (o := ⟨some 26, _, _, _, _, _⟩) rfl (.tmp 23) (.tmp 25) 25 rfl w.heap.size 5 i0 (.int .u8 0) Try.underlying25 hi0 hz0 hz1 hz2 rfl u5 L9.length (bv L9) rfl HI9.out.1 A9 n9 c9 (bytesM r) rfl HL9.out w9.heap.size HBS9.out HNN9.out (by have := HLE.out; have := HBL.out; have := HL9.out; omega) HWS.out ?_; intro v10 w10 hown10 hg10)))
    have HN10 : Hid (Own w10 w.heap.size v10 (rowB n ((xs.map (·.1)).take (k + 1))) ∧ Below w.heap.size w w10) := by
      have hb10 : Below w.heap.size w9 w10 := below_own hg10 (fun j hj => (World.ownsRow.lt HI9.out.1 j hj).1) HWS.out
      refine ⟨?_, HI9.out.2.trans hb10⟩
      rw [HTS.out, rowB_snoc, ← HLQ.out]
      exact Own.of_add hown10 HL9.out
    clear hown10 hg10 HI9 HBS9
    go_roundw
    case rel => exact ⟨k + 1, v10, by omega, rfl, by go_num, HN10⟩
    case measure => simp [intOf]; omega

end Go.Proofs.Ytnljhopikjkflaa.Rec
