/-
  The reference's Text.
-/
import Derived.Test.YtleeanbfhfklmaaWiJ
import Derived.Test.YtleeanbfhfklmaaWi5
namespace Go.Proofs.Ytleeanbfhfklmaa.Wi
set_option maxRecDepth 100000
open Go.RowKit Go.Proofs.Ytleeanbfhfklmaa.Wd

theorem digs_more (f : Nat) : ∀ x, x < 10 ^ f → digs (f + 1) x = digs f x := by
  induction f with
  | zero =>
    intro x hx
    have h0 : x = 0 := by simpa using hx
    subst h0
    simp [digs]
  | succ f ih =>
    intro x hx
    rw [digs]
    by_cases h : x = 0
    · rw [if_pos h, h]; rfl
    · rw [if_neg h, ih (x / 10) (by rw [Nat.pow_succ] at hx; omega)]
      conv => rhs; rw [digs, if_neg h]
/-- behind k digits -/
def TxI (n k x : Nat) (m : List UInt8) : Prop := m ++ digsOf x = digsOf n ∧ k ≤ 38 ∧ x < 10 ^ (39 - k) ∧ m.length = k
theorem TxI.start {n : Nat} (h : n < 340282366920938463463374607431768211456) : TxI n 0 n [] := ⟨rfl, by omega, by show _ < 1000000000000000000000000000000000000000; omega, rfl⟩
theorem TxI.step {n k x : Nat} {m : List UInt8} (h : TxI n k x m) : (x / 10 = 0 → m ++ [dig (x % 10)] = digsOf n) ∧ (¬ x / 10 = 0 → TxI n (k + 1) (x / 10) (m ++ [dig (x % 10)])) := by
  obtain ⟨h1, h2, h3, h4⟩ := h
  refine ⟨fun h0 => ?_, fun h0 => ⟨?_, ?_, ?_, by simp [h4]⟩⟩
  · rw [← h1, digsOf, h0]; rfl
  · rw [← h1]
    have e : digs 40 (x / 10) = digsOf (x / 10) := by
      rw [digs, if_neg h0, digsOf, digs_more 39]
      have : (10 : Nat) ^ (39 - k) ≤ 10 ^ 39 := Nat.pow_le_pow_right (by omega) (by omega)
      omega
    conv => rhs; rw [digsOf, e]
    simp
  · rcases Nat.lt_or_ge k 38 with h | h
    · omega
    · obtain rfl : k = 38 := by omega
      have : x < 10 := h3
      omega
  · have hk : k ≤ 37 := by
      rcases Nat.lt_or_ge k 38 with h | h
      · omega
      · obtain rfl : k = 38 := by omega
        have : x < 10 := h3
        omega
    rw [show 39 - k = 39 - (k + 1) + 1 from by omega, Nat.pow_succ] at h3
    omega
theorem bstr_append (a b : List UInt8) : bstr a ++ bstr b = bstr (a ++ b) := by
  have h (l : List UInt8) : (bstr l).data.toList = l := by
    rw [bstr, strOfNums_data, List.map_map]
    conv => rhs; rw [← List.map_id l]
    refine List.map_congr_left fun b _ => ?_
    simp
  apply ByteArray.ext
  apply Array.toList_inj.1
  rw [ByteArray.data_append, Array.toList_append, h, h, h]
theorem bstr_size (l : List UInt8) : (bstr l).size = l.length := by
  have h : (bstr l).data.toList = l := by
    rw [bstr, strOfNums_data, List.map_map]
    conv => rhs; rw [← List.map_id l]
    refine List.map_congr_left fun b _ => ?_
    simp
  show (bstr l).data.size = _
  rw [← Array.length_toList, h]
theorem bstr_nil : bstr [] = { data := #[] } := rfl
theorem dig_slice (d : Nat) (h : d < 10) (u : World) : (Instr.slice 9 (.string { data := #[48, 49, 50, 51, 52, 53, 54, 55, 56, 57] }) (some (.int .i64 (d : Int))) (some (.int .i64 ((d : Int) + 1))) none).run Try.prog u = .ok (.string (bstr [dig d])) u := by
  match d, h with
  | 0, _ => exact (show (Instr.slice 9 (.string { data := #[48, 49, 50, 51, 52, 53, 54, 55, 56, 57] }) (some (.int .i64 (((0 : Nat) : Int) : Int))) (some (.int .i64 ((((0 : Nat) : Int) : Int) + 1))) none).run Try.prog u = .ok (.string (bstr [dig 0])) u from by kernel_rfl)
  | 1, _ => exact (show (Instr.slice 9 (.string { data := #[48, 49, 50, 51, 52, 53, 54, 55, 56, 57] }) (some (.int .i64 (((1 : Nat) : Int) : Int))) (some (.int .i64 ((((1 : Nat) : Int) : Int) + 1))) none).run Try.prog u = .ok (.string (bstr [dig 1])) u from by kernel_rfl)
  | 2, _ => exact (show (Instr.slice 9 (.string { data := #[48, 49, 50, 51, 52, 53, 54, 55, 56, 57] }) (some (.int .i64 (((2 : Nat) : Int) : Int))) (some (.int .i64 ((((2 : Nat) : Int) : Int) + 1))) none).run Try.prog u = .ok (.string (bstr [dig 2])) u from by kernel_rfl)
  | 3, _ => exact (show (Instr.slice 9 (.string { data := #[48, 49, 50, 51, 52, 53, 54, 55, 56, 57] }) (some (.int .i64 (((3 : Nat) : Int) : Int))) (some (.int .i64 ((((3 : Nat) : Int) : Int) + 1))) none).run Try.prog u = .ok (.string (bstr [dig 3])) u from by kernel_rfl)
  | 4, _ => exact (show (Instr.slice 9 (.string { data := #[48, 49, 50, 51, 52, 53, 54, 55, 56, 57] }) (some (.int .i64 (((4 : Nat) : Int) : Int))) (some (.int .i64 ((((4 : Nat) : Int) : Int) + 1))) none).run Try.prog u = .ok (.string (bstr [dig 4])) u from by kernel_rfl)
  | 5, _ => exact (show (Instr.slice 9 (.string { data := #[48, 49, 50, 51, 52, 53, 54, 55, 56, 57] }) (some (.int .i64 (((5 : Nat) : Int) : Int))) (some (.int .i64 ((((5 : Nat) : Int) : Int) + 1))) none).run Try.prog u = .ok (.string (bstr [dig 5])) u from by kernel_rfl)
  | 6, _ => exact (show (Instr.slice 9 (.string { data := #[48, 49, 50, 51, 52, 53, 54, 55, 56, 57] }) (some (.int .i64 (((6 : Nat) : Int) : Int))) (some (.int .i64 ((((6 : Nat) : Int) : Int) + 1))) none).run Try.prog u = .ok (.string (bstr [dig 6])) u from by kernel_rfl)
  | 7, _ => exact (show (Instr.slice 9 (.string { data := #[48, 49, 50, 51, 52, 53, 54, 55, 56, 57] }) (some (.int .i64 (((7 : Nat) : Int) : Int))) (some (.int .i64 ((((7 : Nat) : Int) : Int) + 1))) none).run Try.prog u = .ok (.string (bstr [dig 7])) u from by kernel_rfl)
  | 8, _ => exact (show (Instr.slice 9 (.string { data := #[48, 49, 50, 51, 52, 53, 54, 55, 56, 57] }) (some (.int .i64 (((8 : Nat) : Int) : Int))) (some (.int .i64 ((((8 : Nat) : Int) : Int) + 1))) none).run Try.prog u = .ok (.string (bstr [dig 8])) u from by kernel_rfl)
  | 9, _ => exact (show (Instr.slice 9 (.string { data := #[48, 49, 50, 51, 52, 53, 54, 55, 56, 57] }) (some (.int .i64 (((9 : Nat) : Int) : Int))) (some (.int .i64 ((((9 : Nat) : Int) : Int) + 1))) none).run Try.prog u = .ok (.string (bstr [dig 9])) u from by kernel_rfl)
/-- the world of a round -/
def TxW (n : Nat) (w wr : World) (k : Nat) (s : ByteArray) : Prop := ∃ (xh xl : Nat) (m : List UInt8), xh < 18446744073709551616 ∧ xl < 18446744073709551616 ∧ TxI n k (xh * 18446744073709551616 + xl) m ∧ s = bstr m.reverse ∧ Row wr w.heap.size 25 [.int .u64 (xh : Int), .int .u64 (xl : Int)] ∧ Row wr (w.heap.size + 1) 25 [.int .u64 0, .int .u64 0] ∧ Below w.heap.size w wr

set_option maxHeartbeats 4000000 in
theorem Text_ref (n ah al : Nat) (w : World) (h1 : ah < 18446744073709551616) (h2 : al < 18446744073709551616) (hn : n = ah * 18446744073709551616 + al) :
    Calls Try.prog 26 #[.agg #[.int .u64 (ah : Int), .int .u64 (al : Int)]] w fun e w' => e = .returned (.string (bstr (digsOf n).reverse)) ∧ Below w.heap.size w w' := by
  have HT := Lib.hid (TxI.start (n := n) (by omega))
  have HN := Lib.hid hn
  clear hn
  go_enter Try.func26, Try.ntmps26
  go_wp2_with fail
  have HI0 := Lib.hid (show TxW n w ((w.alloc (.cells #[.int .u64 (ah : Int), .int .u64 (al : Int)] 25)).alloc (.cells #[.int .u64 0, .int .u64 0] 25)) 0 { data := #[] } from
    ⟨ah, al, [], h1, h2, by rw [← HN.out]; exact HT.out, rfl, (row_last w w.heap.size _ _ rfl).alloc _, row_last _ _ _ _ (by simp), ((Below.refl _ _).alloc (Nat.le_refl _) _).alloc (by simp) _⟩)
  generalize (w.alloc (.cells #[.int .u64 (ah : Int), .int .u64 (al : Int)] 25)).alloc (.cells #[.int .u64 0, .int .u64 0] 25) = w0 at HI0 ⊢
  clear HT HN
  go_loopw [3, 5] (fun sv i wr => ∃ (k : Nat) (s : ByteArray), k ≤ 38 ∧ sv = .string s ∧ i = .int .i64 k ∧ Hid (TxW n w wr k s)) (fun _ i _ => 40 - (intOf i).toNat)
  case atStart => exact ⟨0, _, by omega, rfl, rfl, HI0⟩
  rename World => wr
  obtain ⟨k, s, hk, rfl, rfl, HI⟩ := hrel
  clear HI0
  obtain ⟨xh, xl, m, hxh, hxl, hx, hs, hrow, hrz, hbel⟩ := HI.out
  clear HI
  obtain ⟨yh, yl, hyh, hyl, hy⟩ := parts ((xh * 18446744073709551616 + xl) / 10) (by have := two_lt hxh hxl; omega)
  obtain ⟨dy, hdy⟩ : ∃ d, (xh * 18446744073709551616 + xl) % 10 = d := ⟨_, rfl⟩
  have hdy9 : dy < 10 := by omega
  have HC := Lib.hid (fun w => Tenth_ref _ xh xl yh yl dy w hxh hxl rfl hyh hyl hy hdy)
  obtain ⟨hend, hgo⟩ := hx.step
  rw [hy, hdy] at hend hgo
  have HE := Lib.hid hend
  have HG := Lib.hid hgo
  have HS := Lib.hid hs
  have HL := Lib.hid hx.2.2.2
  have hc0 := hrow.cell 0
  have hc1 := hrow.cell 1
  simp at hc0 hc1
  have HR := Lib.hid hrow
  have HZ := Lib.hid hrz
  have HB := Lib.hid hbel
  clear hend hgo hs hrow hrz hbel hx hy hdy
  have hk40 : (k : Int) < 40 := by omega
  go_wp2_with fail
  refine (HC.out _).mono ?_
  rintro e w5 ⟨rfl, hb⟩
  clear hc0 hc1
  have HR5 := Lib.hid (HR.out.below hb HR.out.lt)
  have HZ5 := Lib.hid (HZ.out.below hb HZ.out.lt)
  have HB5 := Lib.hid (HB.out.trans (hb.mono HB.out.size))
  clear hb HR HZ HB HC
  have hsl := dig_slice dy hdy9
  have hsize : ¬ 9223372036854775807 < (bstr [dig dy]).size + s.size := by rw [HS.out, bstr_size, bstr_size, List.length_reverse, HL.out]; simp; omega
  have hsz0 : w.heap.size < w5.heap.size := HR5.out.lt
  have hrev : bstr [dig dy] ++ s = bstr (m ++ [dig dy]).reverse := by rw [HS.out, bstr_append]; simp
  have hr5 := HR5.out
  have hf0 := hr5.frozen 0
  have hf1 := hr5.frozen 1
  have hc0 := hr5.cell 0
  have hc1 := hr5.cell 1
  have hz0 := HZ5.out.cell 0
  have hz1 := HZ5.out.cell 1
  simp at hc0 hc1 hz0 hz1
  have hsz : w.heap.size + 1 < w5.heap.size := HZ5.out.lt
  obtain ⟨s2, hs2⟩ : ∃ z, z = bstr (m ++ [dig dy]).reverse := ⟨_, rfl⟩
  rw [← hs2] at hrev
  have HS2 := Lib.hid hs2
  have hr6 := (hr5.store 0 (.int .u64 (yh : Int))).store 1 (.int .u64 (yl : Int))
  have hz6 := (HZ5.out.far (p := ⟨w.heap.size, 0, none⟩) (by dsimp only; omega) (.int .u64 (yh : Int))).far (p := ⟨w.heap.size, 1, none⟩) (by dsimp only; omega) (.int .u64 (yl : Int))
  have hb6 := (HB5.out.setCell (p := ⟨w.heap.size, 0, none⟩) (Nat.le_refl _) (.int .u64 (yh : Int))).setCell (p := ⟨w.heap.size, 1, none⟩) (Nat.le_refl _) (.int .u64 (yl : Int))
  have HW := Lib.hid (show ∀ o, (¬ yh * 18446744073709551616 + yl = 0) → TxW n w ((((w5.setCell ⟨w.heap.size, 0, none⟩ (.int .u64 (yh : Int))).setCell ⟨w.heap.size, 1, none⟩ (.int .u64 (yl : Int)))).alloc o) (k + 1) s2 from fun o h =>
    ⟨yh, yl, _, hyh, hyl, HG.out h, hs2, hr6.alloc o, hz6.alloc o, hb6.alloc (by simpa using hb6.size) o⟩)
  have HX := Lib.hid (show ∀ o, Below w.heap.size w ((((w5.setCell ⟨w.heap.size, 0, none⟩ (.int .u64 (yh : Int))).setCell ⟨w.heap.size, 1, none⟩ (.int .u64 (yl : Int)))).alloc o) from fun o => hb6.alloc (by simpa using hb6.size) o)
  clear hr5 hr6 hz6 hb6 HR5 HZ5 HB5 hs2 HS
  have three : (yh = 0 ∧ yl = 0) ∨ (¬ (yh : Int) = 0) ∨ (yh = 0 ∧ ¬ (yl : Int) = 0) := by omega
  rcases three with ⟨h3, h4⟩ | h3 | ⟨h3, h4⟩
  · subst h3 h4
    have HEE := Lib.hid (HE.out rfl)
    clear HE HG HW
    rw [show ((0 : Nat) : Int) = 0 from rfl] at HX ⊢
    have HSS := Lib.hid (show s2 = bstr (digsOf n).reverse by rw [HS2.out, HEE.out])
    clear HEE HS2
    go_wp2
    go_ret
    exact ⟨by rw [← HSS.out]; rfl, HX.out _⟩
  · have HF := Lib.hid (fun o => HW.out o (by omega))
    have hk37 : k ≤ 37 := by have := (HG.out (by omega)).2.1; omega
    clear HE HG HW HX
    go_wp2
    exact ⟨⟨k + 1, s2, by omega, rfl, by go_num, HF.out _⟩, by simp [intOf]; omega⟩
  · subst h3
    have HF := Lib.hid (fun o => HW.out o (by omega))
    have hk37 : k ≤ 37 := by have := (HG.out (by omega)).2.1; omega
    clear HE HG HW HX
    rw [show ((0 : Nat) : Int) = 0 from rfl] at HF ⊢
    go_wp2
    exact ⟨⟨k + 1, s2, by omega, rfl, by go_num, HF.out _⟩, by simp [intOf]; omega⟩
end Go.Proofs.Ytleeanbfhfklmaa.Wi
