/-
  wide's Text: a number in digits.
-/
import Derived.Test.YtleeanbfhfklmaaWi3
import Derived.Test.YtleeanbfhfklmaaWi4
namespace Go.Proofs.Ytleeanbfhfklmaa.Wi
set_option maxRecDepth 100000
open Go.RowKit Go.Proofs.Ytleeanbfhfklmaa.Wd

theorem info5 : (Try.prog.info? 5).map (fun i => (i.zero, i.size, i.bytes)) = some (some (.int .u8 0), 1, 1) := by kernel_rfl

theorem owns_below {w w' : World} {base size n : Nat} {e : TypeId} {v : Value} {xs : List Value} (h : w.ownsRow base e size v n xs) (hb : Below w.heap.size w w') : w'.ownsRow base e size v n xs := by
  cases hv : v.ownBlock with
  | none => exact h.kept (row := none) ⟨hb.os, hb.tape, hb.output, hb.size, fun k hk _ => hb.block k hk⟩ (.inl hv)
  | some k => exact h.kept (row := none) ⟨hb.os, hb.tape, hb.output, hb.size, fun k hk _ => hb.block k hk⟩ (.inr (by rw [hv]; simp))
theorem owns_form {w : World} {base size k : Nat} {e : TypeId} {v : Value} {xs : List Value} (h : w.ownsRow base e size v (k + 1) xs) : ∃ g c, v = .slice (some ⟨g, 0, none⟩) (k + 1) c := by
  rcases h.2 with ⟨-, h0⟩ | ⟨g, cap, cur, hv, -⟩
  · omega
  · exact ⟨g, cap, hv⟩
/-- a digit's sign -/
def dig (d : Nat) : UInt8 := UInt8.ofNat (d + 48)
theorem dig_nat {d : Nat} (h : d < 10) : (dig d).toNat = d + 48 := by simp [dig]; omega
/-- the digits of a number that is not 0, the lowest first -/
def digs : Nat → Nat → List UInt8
  | 0, _ => []
  | f + 1, n => if n = 0 then [] else dig (n % 10) :: digs f (n / 10)
/-- a number's digits, the lowest first: one of 0, too -/
def digsOf (n : Nat) : List UInt8 := dig (n % 10) :: digs 40 (n / 10)
/-- behind k digits and the first one -/
def DigI (n k x : Nat) (m : List UInt8) : Prop := m ++ digs (40 - k) x = digsOf n ∧ m.length = k + 1 ∧ x < 10 ^ (39 - k)
theorem DigI.start {n : Nat} (h : n < 340282366920938463463374607431768211456) : DigI n 0 (n / 10) [dig (n % 10)] := ⟨rfl, rfl, by show _ < 1000000000000000000000000000000000000000; omega⟩
theorem DigI.step {n k x : Nat} {m : List UInt8} (h : DigI n k x m) (hx : ¬ x = 0) : k < 39 ∧ DigI n (k + 1) (x / 10) (m ++ [dig (x % 10)]) := by
  obtain ⟨h1, h2, h3⟩ := h
  have hk : k < 39 := by
    rcases Nat.lt_or_ge k 39 with h | h
    · exact h
    · rw [show 39 - k = 0 from by omega] at h3
      simp at h3
      omega
  refine ⟨hk, ?_, by simp [h2], ?_⟩
  · rw [← h1, show 40 - k = (40 - (k + 1)) + 1 from by omega, digs, if_neg hx]
    simp
  · rw [show 39 - k = 39 - (k + 1) + 1 from by omega, Nat.pow_succ] at h3
    omega
theorem DigI.done {n k : Nat} {m : List UInt8} (h : DigI n k 0 m) : m = digsOf n := by
  obtain ⟨h1, -, -⟩ := h
  rw [← h1]
  cases 40 - k <;> simp [digs]
theorem DigI.few {n k x : Nat} {m : List UInt8} (h : DigI n k x m) (hk : k ≤ 39) : m.length ≤ 40 := by have := h.2.1; omega
/-- a text of bytes -/
def bstr (l : List UInt8) : ByteArray := strOfNums (l.map fun b => (b.toNat : Int))
def lenV : Value → Nat
  | .slice _ n _ => n
  | _ => 0
/-- the world of a round -/
def TxtW (n : Nat) (w wr : World) (v : Value) : Prop := ∃ (k xh xl : Nat) (m : List UInt8), k ≤ 39 ∧ xh < 18446744073709551616 ∧ xl < 18446744073709551616 ∧ lenV v = k + 1 ∧ DigI n k (xh * 18446744073709551616 + xl) m ∧ Row wr w.heap.size 25 [.int .u64 (xh : Int), .int .u64 (xl : Int)] ∧ wr.ownsRow (w.heap.size + 1) 5 1 v (k + 1) (bv m) ∧ Below w.heap.size w wr

set_option maxHeartbeats 2000000 in
theorem Text_any (n ah al : Nat) (w : World) (h1 : ah < 18446744073709551616) (h2 : al < 18446744073709551616) (hn : n = ah * 18446744073709551616 + al) :
    Calls Try.prog 25 #[.agg #[.int .u64 (ah : Int), .int .u64 (al : Int)]] w fun e w' =>
      e = .returned (.string (bstr (digsOf n).reverse)) ∧ Below w.heap.size w w' := by
  obtain ⟨i0, hi0, hz0, hz1, hz2⟩ := info_parts info5
  have hlt : n < 340282366920938463463374607431768211456 := by omega
  obtain ⟨qh, ql, hqh, hql, hq⟩ := parts (n / 10) (by omega)
  obtain ⟨dd, hdd⟩ : ∃ d, n % 10 = d := ⟨_, rfl⟩
  have hdd9 : dd < 10 := by omega
  have HT := Lib.hid (fun w => tenth_any n ah al qh ql dd w h1 h2 hn hql hq hdd)
  have HS := Lib.hid (show DigI n 0 (qh * 18446744073709551616 + ql) [dig dd] from by rw [← hq, ← hdd]; exact DigI.start hlt)
  clear hn hq hdd hlt
  rw [← dig_nat hdd9] at HT
  clear hdd9
  generalize dig dd = b at HT HS
  go_enter Try.func25, Try.ntmps25
  go_wp2_with fail
  refine (HT.out _).mono ?_
  rintro e w1 ⟨rfl, hb⟩
  have hrow := (row_last w w.heap.size 25 [.int .u64 (ah : Int), .int .u64 (al : Int)] rfl).below hb (by simp)
  have hf0 := hrow.frozen 0
  have hf1 := hrow.frozen 1
  have hc0 := hrow.cell 0
  have hc1 := hrow.cell 1
  simp at hc0 hc1
  have hsz : w.heap.size < w1.heap.size := hrow.lt
  have HR := Lib.hid ((hrow.store 0 (.int .u64 (qh : Int))).store 1 (.int .u64 (ql : Int)))
  have HB := Lib.hid (((((Below.refl w.heap.size w).alloc (Nat.le_refl _) _).trans (hb.mono (by simp))).setCell (p := ⟨w.heap.size, 0, none⟩) (Nat.le_refl _) (.int .u64 (qh : Int))).setCell (p := ⟨w.heap.size, 1, none⟩) (Nat.le_refl _) (.int .u64 (ql : Int)))
  clear hb hrow
  have hs2 : ((w1.setCell ⟨w.heap.size, 0, none⟩ (.int .u64 (qh : Int))).setCell ⟨w.heap.size, 1, none⟩ (.int .u64 (ql : Int))).heap.size = w1.heap.size := by simp
  go_wp2_with fail
  clear hf0 hf1 hc0 hc1
  rw [← hs2] at hsz ⊢
  generalize ((w1.setCell ⟨w.heap.size, 0, none⟩ (.int .u64 (qh : Int))).setCell ⟨w.heap.size, 1, none⟩ (.int .u64 (ql : Int))) = w2 at HR HB hsz ⊢
  clear hs2
  have HI0 := Lib.hid (show TxtW n w (w2.alloc (.cells #[.int .u8 (b.toNat : Int)] 5)) (.slice (some ⟨w2.heap.size, 0, none⟩) 1 1) from
    ⟨0, qh, ql, [b], by omega, hqh, hql, rfl, HS.out, HR.out.alloc _, Row.own (Row.new w2 5 [.int .u8 (b.toNat : Int)]) (by omega) rfl (by unfold maxLen; omega), HB.out.alloc (by omega) _⟩)
  clear HR HB HS hsz
  generalize (Value.slice (some ⟨w2.heap.size, 0, none⟩) 1 1) = v0 at HI0 ⊢
  generalize w2.alloc (.cells #[.int .u8 (b.toNat : Int)] 5) = w3 at HI0 ⊢
  go_loopw [3, 4] (fun x v wr => Hid (TxtW n w wr v)) (fun _ v _ => 41 - lenV v)
  case atStart => exact HI0
  rename World => wr
  clear HI0
  obtain ⟨k, xh, xl, m, hk, hxh, hxl, hlen, hd, hrow, hown, hbel⟩ := hrel.out
  clear hrel
  by_cases hz : xh = 0 ∧ xl = 0
  · obtain ⟨rfl, rfl⟩ := hz
    have hmd := hd.done
    have hml := hd.2.1
    rcases hown.2 with ⟨-, h0⟩ | ⟨g, cap, cur, hv, hgb, hg, hnc, hcm, hcs, hct⟩
    · omega
    subst hv
    simp only [Nat.mul_one] at hct
    have HRW : Hid (Row wr g 5 (bv m ++ cur.toList.drop (k + 1))) := (show Row _ _ _ _ by
      rw [← hct, List.take_append_drop]; exact hg)
    have HV := Lib.hid (Reverse_any m (cur.toList.drop (k + 1)) g (k + 1) cap wr HRW.out hml (by unfold maxLen; omega) (by omega))
    have HB := Lib.hid hbel
    have HMD := Lib.hid hmd
    have HML := Lib.hid hml
    have hgb2 : w.heap.size < g := hgb
    have hc0 := hrow.cell 0
    have hc1 := hrow.cell 1
    simp at hc0 hc1
    clear hd hown hg hct hcs hcm hnc hgb hbel hrow HRW hmd hml hlen
    go_wp2_with fail
    refine (HV.out).mono ?_
    rintro e w5 ⟨rfl, hr5, hg5⟩
    have HB5 := Lib.hid (HB.out.grown hg5 HB.out.size (fun i hi => by cases hi; omega))
    have hcv := run_convert_bytes_arg w5 53 5 Try.underlying53 Try.underlying5 g 0 (k + 1) cap (m.reverse.map fun b => (b.toNat : Int)) (by simp [HML.out]) (fun i hi => by
      rw [Nat.zero_add, hr5.cell, bv_cell _ _ _ (by simp [HML.out]; exact hi)]
      simp [HML.out, hi]) 9 Try.underlying9
    have hsv : ∃ sv, sv = strOfNums (m.reverse.map fun b => (b.toNat : Int)) := ⟨_, rfl⟩
    obtain ⟨sv, hsv⟩ := hsv
    rw [← hsv] at hcv
    have HSV : Hid (sv = bstr (digsOf n).reverse) := (show _ = _ by rw [hsv, ← HMD.out]; rfl)
    clear hr5 hg5 hc0 hc1 hsv
    go_wp2
    go_ret
    exact ⟨by rw [← HSV.out]; rfl, HB5.out⟩
  · obtain ⟨hk39, hd2⟩ := hd.step (by omega)
    obtain ⟨yh, yl, hyh, hyl, hy⟩ := parts ((xh * 18446744073709551616 + xl) / 10) (by have := two_lt hxh hxl; omega)
    obtain ⟨dy, hdy⟩ : ∃ d, (xh * 18446744073709551616 + xl) % 10 = d := ⟨_, rfl⟩
    have hdy9 : dy < 10 := by omega
    have HC := Lib.hid (fun w => tenth_any _ xh xl yh yl dy w hxh hxl rfl hyl hy hdy)
    rw [← dig_nat hdy9] at HC
    rw [hy, hdy] at hd2
    clear hdy9 hdy hy hd
    generalize dig dy = c at HC hd2
    have three : (¬ (xh : Int) = 0) ∨ (xh = 0 ∧ ¬ (xl : Int) = 0) := by omega
    have hc0 := hrow.cell 0
    have hc1 := hrow.cell 1
    simp at hc0 hc1
    have HD := Lib.hid hd2
    have HR := Lib.hid hrow
    have HO := Lib.hid hown
    have HB := Lib.hid hbel
    have HLV := Lib.hid hlen
    clear hd2 hrow hown hbel hlen hz
    rcases three with h3 | ⟨h3, h4⟩
    case' inr => subst h3
    case' inr => simp only [show ((0 : Nat) : Int) = 0 from rfl] at HC hc0 HR
    all_goals
      go_wp2_with fail
      refine (HC.out _).mono ?_
      rintro e w5 ⟨rfl, hb⟩
      have hrow := HR.out.below hb HR.out.lt
      have hf0 := hrow.frozen 0
      have hf1 := hrow.frozen 1
      clear hc0 hc1
      have hc0 := hrow.cell 0
      have hc1 := hrow.cell 1
      simp at hc0 hc1
      have hsz : w.heap.size < w5.heap.size := hrow.lt
      have HR5 : Hid (Row ((w5.setCell ⟨w.heap.size, 0, none⟩ (.int .u64 (yh : Int))).setCell ⟨w.heap.size, 1, none⟩ (.int .u64 (yl : Int))) w.heap.size 25 [.int .u64 (yh : Int), .int .u64 (yl : Int)]) := Lib.hid ((hrow.store 0 (.int .u64 (yh : Int))).store 1 (.int .u64 (yl : Int)))
      have HO5 := Lib.hid (ownsRow_setCell_below (ownsRow_setCell_below (owns_below HO.out hb) (a := ⟨w.heap.size, 0, none⟩) (by dsimp only; omega) (.int .u64 (yh : Int))) (a := ⟨w.heap.size, 1, none⟩) (by dsimp only; omega) (.int .u64 (yl : Int)))
      have HB5 := Lib.hid (((HB.out.trans (hb.mono HB.out.size)).setCell (p := ⟨w.heap.size, 0, none⟩) (Nat.le_refl _) (.int .u64 (yh : Int))).setCell (p := ⟨w.heap.size, 1, none⟩) (Nat.le_refl _) (.int .u64 (yl : Int)))
      have hs5 : ((w5.setCell ⟨w.heap.size, 0, none⟩ (.int .u64 (yh : Int))).setCell ⟨w.heap.size, 1, none⟩ (.int .u64 (yl : Int))).heap.size = w5.heap.size := by simp
      clear hb hrow HO HB HR HC
      have HL5 : Hid (Bs (((w5.setCell ⟨w.heap.size, 0, none⟩ (.int .u64 (yh : Int))).setCell ⟨w.heap.size, 1, none⟩ (.int .u64 (yl : Int))).alloc (.cells #[.int .u8 (c.toNat : Int)] 5)) (w5.heap.size + 1) (some ⟨w5.heap.size, 0, none⟩) [c]) := (show Bs _ _ _ _ by
        rw [← hs5]; exact (Row.new _ _ (bv [c])).bs (by omega))
      have HZ5 : Hid (w.heap.size + 1 ≤ (((w5.setCell ⟨w.heap.size, 0, none⟩ (.int .u64 (yh : Int))).setCell ⟨w.heap.size, 1, none⟩ (.int .u64 (yl : Int))).alloc (.cells #[.int .u8 (c.toNat : Int)] 5)).heap.size) := (show _ ≤ _ by rw [World.size_alloc, hs5]; omega)
      clear hs5
      go_wp2_with (first
        | (at_builtin; (refine wpList_append_bs (o := ⟨some 23, _, _, _, _, _⟩) rfl (.tmp 20) (.tmp 22) 53 rfl (w.heap.size + 1) 5 i0 (.int .u8 0) Try.underlying53 hi0 hz0 hz1 hz2 rfl u4 (k + 1) (bv m) rfl (World.ownsRow.alloc HO5.out _) (some ⟨w5.heap.size, 0, none⟩) 1 1 [c] rfl rfl (w5.heap.size + 1) HL5.out (fun hh => by cases hh) (by omega) HZ5.out ?_; intro v7 w7 hown7 hg7; have HO7 := Lib.hid hown7; have HG7 := Lib.hid hg7; clear hown7 hg7)))
      obtain ⟨g7, c7, hv7⟩ := owns_form HO7.out
      have hl7 : lenV v7 = k + 1 + 1 := by rw [hv7]; rfl
      have hle := World.ownsRow.lt HO5.out
      have HR7 := (HR5.out.alloc _).grown HG7.out (fun hh => by have := (hle _ hh.symm).1; omega)
      have HB7 := (HB5.out.alloc HB5.out.size _).grown HG7.out (by have := HZ5.out; omega) (fun i hi => by have := (hle _ hi).1; omega)
      exact ⟨(show TxtW n w w7 v7 from ⟨k + 1, yh, yl, m ++ [c], by omega, hyh, hyl, hl7, HD.out, HR7, by rw [bv_append]; exact HO7.out, HB7⟩), by rw [hl7, HLV.out]; omega⟩

theorem text_one : bstr (digsOf 18446744073709551616).reverse = { data := #[49, 56, 52, 52, 54, 55, 52, 52, 48, 55, 51, 55, 48, 57, 53, 53, 49, 54, 49, 54] } := by kernel_rfl
theorem wakes_any (w : World) : Calls Try.prog 10 #[] w fun e w' => e = .returned (.bool true) ∧ Below w.heap.size w w' := by
  have HA := Lib.hid (fun w => Mul_any 18446744073709551615 18446744073709551615 18446744073709551614 1 w (by decide) (by decide) (by decide) (by decide) (by decide))
  have HB := Lib.hid (fun w => Text_any 18446744073709551616 1 0 w (by decide) (by decide) (by decide))
  rw [text_one] at HB
  go_enter Try.func10, Try.ntmps10
  go_wp2_with fail
  refine (HA.out _).mono ?_
  rintro e w1 ⟨rfl, hb⟩
  have B1 := Lib.hid hb
  clear hb
  go_wp2_with fail
  refine (HB.out _).mono ?_
  rintro e w2 ⟨rfl, hb⟩
  have B2 := Lib.hid (B1.out.trans (hb.mono B1.out.size))
  clear hb
  go_wp2
  go_ret
  exact ⟨rfl, B2.out⟩
end Go.Proofs.Ytleeanbfhfklmaa.Wi
