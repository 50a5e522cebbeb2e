/-
  A page's bytes: bytesOf, Encode.
-/
import Derived.Test.YtnljhopikjkflaaDoorPgB
namespace Go.Proofs.YtnljhopikjkflaaDoor.Pg
set_option maxRecDepth 100000
open Go.RowKit Go.Proofs.YtnljhopikjkflaaDoor.Wd Go.Proofs.YtnljhopikjkflaaDoor.Oct Go.Proofs.YtnljhopikjkflaaDoor.Dsk Go.Proofs.YtnljhopikjkflaaDoor.Rec Go.Proofs.YtnljhopikjkflaaDoor.Sum Go.Proofs.YtnljhopikjkflaaDoor.Sm

/-- a page's bytes -/
def pageB (num : Int) (lsn : Nat) (sl : Nat → List UInt8) : List UInt8 := bodyB num lsn sl ++ hi 4 (sm 2197175160 4 (bodyB num lsn sl))
theorem pageB_len {num : Int} {lsn : Nat} {sl : Nat → List UInt8} (h : ∀ k, k < 4 → (sl k).length ≤ 52) : (pageB num lsn sl).length = 256 := by
  simp [pageB, bodyB_len h, hi_length]
theorem idx_any (s : PS) (k : Nat) (hk : k < 4) (u : World) : (Instr.index 24 (.agg (scs s).toArray) (.int .i64 (k : Int))).run Tryd.prog u = .ok (.slice (s.A k) (s.n k) (s.c k)) u := by
  match k, hk with
  | 0, _ => exact show (Instr.index 24 (.agg (scs s).toArray) (.int .i64 0)).run Tryd.prog u = .ok (.slice (s.A 0) (s.n 0) (s.c 0)) u by kernel_rfl
  | 1, _ => exact show (Instr.index 24 (.agg (scs s).toArray) (.int .i64 1)).run Tryd.prog u = .ok (.slice (s.A 1) (s.n 1) (s.c 1)) u by kernel_rfl
  | 2, _ => exact show (Instr.index 24 (.agg (scs s).toArray) (.int .i64 2)).run Tryd.prog u = .ok (.slice (s.A 2) (s.n 2) (s.c 2)) u by kernel_rfl
  | 3, _ => exact show (Instr.index 24 (.agg (scs s).toArray) (.int .i64 3)).run Tryd.prog u = .ok (.slice (s.A 3) (s.n 3) (s.c 3)) u by kernel_rfl
theorem putNoughts_int (v : Value) (l : List UInt8) (x : Int) (base : Nat) (w : World) (ho : Own w base v l) (hl : l.length ≤ 100000) (hb : base ≤ w.heap.size) (h0 : 0 ≤ x) (hm : x ≤ 100000) :
    Calls Tryd.prog 35 #[v, .int .i64 x] w (Grew w base (l ++ List.replicate x.toNat 0)) := by
  obtain ⟨m, rfl⟩ := Int.eq_ofNat_of_zero_le h0
  exact putNoughts_any v l m base w ho hl hb (by omega)
theorem ub_cell (n : Nat) (h : n ≤ 52) (w : World) : Bs (w.alloc (.cells #[.int .u8 (n : Int)] 5)) (w.heap.size + 1) (some ⟨w.heap.size, 0, none⟩) [ub n] := by
  have := lit_bs w [ub n] 5
  have e : ((ub n).toNat : Int) = (n : Int) := by simp [ub]; omega
  simpa [bv, e] using this
set_option maxHeartbeats 2000000 in
theorem bytesOf_any (m lsn : Nat) (sl : Nat → List UInt8) (s : PS) (B : Nat) (w : World) (h : PgAt w B sl s) (hB : B ≤ w.heap.size) (hok : okN (m : Int) s.n = true) :
    Calls Tryd.prog 16 #[.agg (pcs (m : Int) lsn s).toArray] w (Grew w w.heap.size (pageB (m : Int) lsn sl)) := by
  obtain ⟨i0, hi0, hz0, hz1, hz2⟩ := info_parts info5
  have hok2 := okN_iff.1 hok
  have hm32 : m < 32 := by omega
  have hm16 : (m : Int) % 65536 = (m : Int) := by omega
  have HN := Lib.hid hok2.2
  have HP := Lib.hid h
  have HSL := Lib.hid (fun k (hk : k < 4) => (show (sl k).length ≤ 52 by rw [h.lens k hk]; exact hok2.2 k hk))
  have HIX := Lib.hid (idx_any s)
  unfold scs at HIX
  clear h hok hok2
  unfold pcs
  go_enter Tryd.func16, Tryd.ntmps16
  go_upto_region 1 with fail
  have HB := Lib.hid (boxed w (m : Int) lsn s)
  unfold pcs at HB
  generalize w.alloc (.cells #[.int .i64 (m : Int), .int .u64 (lsn : Int), .slice (s.A 0) (s.n 0) (s.c 0), .slice (s.A 1) (s.n 1) (s.c 1), .slice (s.A 2) (s.n 2) (s.c 2), .slice (s.A 3) (s.n 3) (s.c 3)] 26) = w1 at HB ⊢
  have hc0 : w1.cell? ⟨w.heap.size, 0, none⟩ = some (.int .i64 (m : Int)) := HB.out.row.cell 0
  go_wp2_with fail
  refine (put16_any none [] 0 0 m w1 rfl (by omega) (by omega) (Bs.nil _ _ _)).mono ?_
  rintro e w2 ⟨g2, n2, rfl, hl2, hg2, hr2, hb2⟩
  have HB2 := Lib.hid (HB.out.then hb2)
  have hc1 : w2.cell? ⟨w.heap.size, 1, none⟩ = some (.int .u64 (lsn : Int)) := HB2.out.row.cell 1
  have HL2 := Lib.hid hl2.out
  have HR2 := Lib.hid hr2
  clear hc0 hl2 hg2 hr2 hb2
  go_wp2_with fail
  refine (put64_any (some ⟨g2, 0, none⟩) ([] ++ hi 2 m) n2 n2 lsn w2 HL2.out.symm (by have := HL2.out; simp [hi_length] at this; omega) (HR2.out.bs HR2.out.lt)).mono ?_
  rintro e w3 ⟨g3, n3, rfl, hl3, hg3, hr3, hb3⟩
  have HB3 := Lib.hid (HB2.out.then hb3)
  have HO3 : Hid (Own w3 (w.heap.size + 1) (.slice (some ⟨g3, 0, none⟩) n3 n3) (headB (m : Int) lsn ++ slotsB sl 0)) := by
    have := Own.of_row (base := w.heap.size + 1) hr3 (Nat.le_trans HB2.out.sz hg3) hl3.out (by have := hl3.out; simp [hi_length] at this; unfold maxLen; omega)
    have e : [] ++ hi 2 m ++ hi 8 lsn = headB (m : Int) lsn ++ slotsB sl 0 := by simp [headB, slotsB]
    rw [e] at this
    exact this
  have ha0 : w3.cell? ⟨w.heap.size, 2, none⟩ = some (.slice (s.A 0) (s.n 0) (s.c 0)) := HB3.out.row.cell 2
  have ha1 : w3.cell? ⟨w.heap.size, 3, none⟩ = some (.slice (s.A 1) (s.n 1) (s.c 1)) := HB3.out.row.cell 3
  have ha2 : w3.cell? ⟨w.heap.size, 4, none⟩ = some (.slice (s.A 2) (s.n 2) (s.c 2)) := HB3.out.row.cell 4
  have ha3 : w3.cell? ⟨w.heap.size, 5, none⟩ = some (.slice (s.A 3) (s.n 3) (s.c 3)) := HB3.out.row.cell 5
  clear hc1 hl3 hg3 hr3 hb3 HB HB2 HL2 HR2
  go_wp2_with fail
  clear ha0 ha1 ha2 ha3
  go_loopw [3, 16] (fun t3 t16 wr => ∃ (k : Nat) (v : Value), k ≤ 4 ∧ t3 = v ∧ t16 = .int .i64 (k : Int) ∧ Hid (Own wr (w.heap.size + 1) v (headB (m : Int) lsn ++ slotsB sl k) ∧ Below w.heap.size w wr ∧ w.heap.size + 1 ≤ wr.heap.size)) (fun _ t16 _ => 4 - (intOf t16).toNat)
  case atStart => exact ⟨0, _, by omega, rfl, rfl, ⟨HO3.out, HB3.out.hb, HB3.out.sz⟩⟩
  case round =>
    obtain ⟨k, v, hk, rfl, rfl, HV⟩ := hrel
    obtain ⟨Av, nv, cv, rfl, h1, h2, h3, h4, h5⟩ := HV.out.1.open
    have HVL := Lib.hid h1
    have HLN := Lib.hid (slotsB_len HSL.out k hk)
    have hnv : nv = 10 + 53 * k := by have := HVL.out; simp [headB, hi_length, HLN.out] at this; omega
    have HNV := Lib.hid hnv
    have hnv1 : nv ≤ 222 := by omega
    clear h1 h3 h4 h5 hnv HB3 HO3
    by_cases hlt : k < 4
    · have h1 : (k : Int) < 4 := by omega
      have hix := HIX.out k hlt
      have hnk := HN.out k hlt
      have hnk2 : (s.n k : Int) % 256 = (s.n k : Int) := by omega
      have HSK := Lib.hid ((HP.out k hlt).below (HV.out.2.1.mono hB))
      have HUB := Lib.hid (ub_cell (s.n k) hnk wr)
      obtain ⟨L, hL⟩ : ∃ L, L = headB (m : Int) lsn ++ slotsB sl k := ⟨_, rfl⟩
      have HL := Lib.hid hL
      have HOV : Hid (Own wr (w.heap.size + 1) (.slice Av nv cv) L) := (show Own _ _ _ _ by rw [hL]; exact HV.out.1)
      have HLL : Hid (L.length = nv) := (show _ = _ by rw [hL]; exact HVL.out)
      have HVB := Lib.hid HV.out.2
      clear hL HV
      go_upto_region 7 with (first
        | (at_builtin; (refine wpList_append_bs (o := ⟨some 24, _, _, _, _, _⟩) rfl (.tmp 19) (.tmp 23) 23 rfl (w.heap.size + 1) 5 i0 (.int .u8 0) Tryd.underlying23 hi0 hz0 hz1 hz2 rfl (.slice Av nv cv) L.length (bv L) rfl (World.ownsRow.alloc HOV.out _) (some ⟨wr.heap.size, 0, none⟩) 1 1 [ub (s.n k)] rfl rfl (wr.heap.size + 1) HUB.out (fun hh => by cases hh) (by have := HLL.out; omega) (by have := HVB.out.2; simp; omega) ?_; intro v2 w2 hown2 hg2; have HG2 := Lib.hid (below_own hg2 (fun k hk => (World.ownsRow.lt HOV.out k hk).1) (by have := HVB.out.2; simp; omega)); have HO2 := Lib.hid hown2; have HS2 := Lib.hid (show w.heap.size + 1 ≤ w2.heap.size from Nat.le_trans (by have := HVB.out.2; simp; omega) HG2.out.size); clear hown2 hg2))
        | (at_builtin; refine wpList_append_bs (o := ⟨some 26, _, _, _, _, _⟩) rfl (.tmp 24) (.tmp 25) 23 rfl (w.heap.size + 1) 5 i0 (.int .u8 0) Tryd.underlying23 hi0 hz0 hz1 hz2 rfl v2 (L.length + 1) (bv L ++ bv [ub (s.n k)]) rfl HO2.out (s.A k) (s.n k) (s.c k) (sl k) rfl HSK.out.len B (((HSK.out.bs.alloc (Nat.le_trans hB HVB.out.1.size) _)).below (HG2.out.mono (by omega))) HSK.out.nil (by have := HLL.out; omega) HS2.out ?_; intro v3 w3 hown3 hg3; have HG3 := Lib.hid (below_own hg3 (fun k hk => (World.ownsRow.lt HO2.out k hk).1) HS2.out); have HO3 := Lib.hid hown3; clear hown3 hg3))
      have HO4 : Hid (Own w3 (w.heap.size + 1) v3 (L ++ (ub (s.n k) :: sl k))) := by
        have h := HO3.out
        show Own _ _ _ _
        unfold Own
        rw [show (L ++ (ub (s.n k) :: sl k)).length = L.length + 1 + s.n k from by have := HSK.out.len; simp; omega]
        simpa [bv] using h
      have HS3 := Lib.hid (Nat.le_trans HS2.out HG3.out.size)
      clear HO2 HO3
      go_wp2_with fail
      refine (putNoughts_int v3 (L ++ (ub (s.n k) :: sl k)) (52 - (s.n k : Int)) (w.heap.size + 1) w3 HO4.out (by have := HLL.out; have := HSK.out.len; simp; omega) HS3.out (by omega) (by omega)).mono ?_
      rintro e w5 ⟨v5, rfl, ho5, hb5⟩
      have HV5 : Hid (Own w5 (w.heap.size + 1) v5 (headB (m : Int) lsn ++ slotsB sl (k + 1)) ∧ Below w.heap.size w w5 ∧ w.heap.size + 1 ≤ w5.heap.size) := by
        refine ⟨?_, ?_, Nat.le_trans HS3.out hb5.size⟩
        · have e : L ++ (ub (s.n k) :: sl k) ++ List.replicate (52 - (s.n k : Int)).toNat 0 = headB (m : Int) lsn ++ slotsB sl (k + 1) := by
            rw [HL.out]
            have e1 : (52 - (s.n k : Int)).toNat = 52 - (sl k).length := by rw [HSK.out.len]; omega
            rw [e1, ← HSK.out.len]
            simp [slotsB, slotB]
          rw [← e]
          exact ho5
        · exact ((HVB.out.1.alloc HVB.out.1.size _).trans (HG2.out.mono (by omega))).trans ((HG3.out.mono (by omega)).trans (hb5.mono (by omega)))
      clear ho5 hb5 HO4 HG2 HG3 HS2 HS3 HVB HOV HLL HUB HSK hix
      go_wp2
      go_roundw
      case rel => exact ⟨k + 1, _, by omega, rfl, by go_num, HV5.out⟩
      case measure => simp [intOf]; omega
    · obtain rfl : k = 4 := by omega
      have hn222 : nv = 222 := by have := HNV.out; omega
      subst hn222
      clear HNV hlt
      go_wp2_with fail
      refine (putNoughts_int _ (headB (m : Int) lsn ++ slotsB sl 4) _ (w.heap.size + 1) wr HV.out.1 (by rw [HVL.out]; omega) HV.out.2.2 (by omega) (by omega)).mono ?_
      rintro e w6 ⟨v6, rfl, ho6, hb6⟩
      have HO6 : Hid (Own w6 (w.heap.size + 1) v6 (bodyB (m : Int) lsn sl)) := ho6
      have HB6 := Lib.hid (HV.out.2.1.trans (hb6.mono (by omega)))
      have HLB := Lib.hid (bodyB_len (num := (m : Int)) (lsn := lsn) HSL.out)
      obtain ⟨BB, hBB⟩ : ∃ BB, BB = bodyB (m : Int) lsn sl := ⟨_, rfl⟩
      rw [← hBB] at HO6 HLB
      have HPB : Hid (pageB (m : Int) lsn sl = BB ++ hi 4 (sm 2197175160 4 BB)) := (show _ = _ by rw [hBB]; rfl)
      clear hBB
      obtain ⟨A6, n6, c6, rfl, hs6⟩ := HO6.out.sl
      have HS6 := Lib.hid hs6
      have hn6 : n6 = 252 := by have := HS6.out.len; have := HLB.out; omega
      subst hn6
      have hsm : sm 2197175160 4 BB < 256 ^ 4 := sm_lt poly32 BB
      have HSM := Lib.hid hsm
      clear ho6 hb6 HO6 hs6 hsm HV HVL HLN
      go_wp2_with fail
      refine (Sum32_any A6 BB c6 252 w6 HS6.out.len (by unfold maxLen; omega) w6.heap.size HS6.out.bs).mono ?_
      rintro e w7 ⟨rfl, rfl⟩
      have hx7 : ((sm 2197175160 4 BB : Nat) : Int) < 4294967296 := by have := HSM.out; omega
      generalize sm 2197175160 4 BB = x at hx7 HPB ⊢
      go_wp2_with fail
      refine (put32_any A6 BB c6 252 x w6 HS6.out.len.symm (by omega) hx7 HS6.out.bs).mono ?_
      rintro e w8 ⟨g8, n8, rfl, hl8, hg8, hr8, hb8⟩
      have HM := Lib.hid (show Made w6 (BB ++ hi 4 x) (.returned (.slice (some ⟨g8, 0, none⟩) n8 n8)) w8 from ⟨g8, n8, rfl, hl8, hg8, hr8, hb8⟩)
      clear hl8 hg8 hr8 hb8
      go_wp2
      go_ret
      have hgm := grew_made (base := w.heap.size) HB6.out.size (by have := HLB.out; simp [hi_length]; unfold maxLen; omega) HM.out
      obtain ⟨v9, e9, o9, b9⟩ := hgm
      exact ⟨v9, e9, by rw [HPB.out]; exact o9, HB6.out.trans b9⟩
/-- what Encode answers -/
def Enc (w : World) (num : Int) (lsn : Nat) (sl : Nat → List UInt8) (ok : Bool) (e : Ending) (w' : World) : Prop := ∃ v, e = .returned (.tuple #[v, .int .i64 (errP ok)]) ∧ Own w' w.heap.size v (if ok = true then pageB num lsn sl else []) ∧ Below w.heap.size w w'
set_option maxHeartbeats 1000000 in
theorem encode_any (num : Int) (lsn : Nat) (sl : Nat → List UInt8) (s : PS) (B : Nat) (w : World) (h : PgAt w B sl s) (hB : B ≤ w.heap.size) :
    Calls Tryd.prog 6 #[.agg (pcs num lsn s).toArray] w (Enc w num lsn sl (okN num s.n)) := by
  have HP := Lib.hid h
  have HCH := Lib.hid (fun (W : World) => check_any num lsn s W)
  have HBY : Hid (∀ (W : World), Below w.heap.size w W → okN num s.n = true → Calls Tryd.prog 16 #[.agg (pcs num lsn s).toArray] W (Grew W W.heap.size (pageB num lsn sl))) := by
    intro W hb hok
    obtain ⟨m, rfl⟩ := Int.eq_ofNat_of_zero_le (okN_iff.1 hok).1.1
    exact bytesOf_any m lsn sl s B W (HP.out.below (hb.mono hB)) (Nat.le_trans hB hb.size) hok
  generalize okN num s.n = K at HCH HBY ⊢
  unfold Enc
  generalize pageB num lsn sl = PB at HBY ⊢
  unfold pcs at HCH HBY ⊢
  go_enter Tryd.func6, Tryd.ntmps6
  go_upto_region 1 with fail
  have HB := Lib.hid (boxed w num lsn s)
  unfold pcs at HB
  generalize w.alloc (.cells #[.int .i64 num, .int .u64 (lsn : Int), .slice (s.A 0) (s.n 0) (s.c 0), .slice (s.A 1) (s.n 1) (s.c 1), .slice (s.A 2) (s.n 2) (s.c 2), .slice (s.A 3) (s.n 3) (s.c 3)] 26) = w1 at HB ⊢
  have ha0 : w1.cell? ⟨w.heap.size, 0, none⟩ = some (.int .i64 num) := HB.out.row.cell 0
  have ha1 : w1.cell? ⟨w.heap.size, 1, none⟩ = some (.int .u64 (lsn : Int)) := HB.out.row.cell 1
  have ha2 : w1.cell? ⟨w.heap.size, 2, none⟩ = some (.slice (s.A 0) (s.n 0) (s.c 0)) := HB.out.row.cell 2
  have ha3 : w1.cell? ⟨w.heap.size, 3, none⟩ = some (.slice (s.A 1) (s.n 1) (s.c 1)) := HB.out.row.cell 3
  have ha4 : w1.cell? ⟨w.heap.size, 4, none⟩ = some (.slice (s.A 2) (s.n 2) (s.c 2)) := HB.out.row.cell 4
  have ha5 : w1.cell? ⟨w.heap.size, 5, none⟩ = some (.slice (s.A 3) (s.n 3) (s.c 3)) := HB.out.row.cell 5
  go_wp2_with fail
  refine (HCH.out _).mono ?_
  rintro e w2 ⟨rfl, hb2⟩
  have HB2 := Lib.hid (HB.out.then hb2)
  clear ha0 ha1 ha2 ha3 ha4 ha5 hb2 HB
  have ha0 : w2.cell? ⟨w.heap.size, 0, none⟩ = some (.int .i64 num) := HB2.out.row.cell 0
  have ha1 : w2.cell? ⟨w.heap.size, 1, none⟩ = some (.int .u64 (lsn : Int)) := HB2.out.row.cell 1
  have ha2 : w2.cell? ⟨w.heap.size, 2, none⟩ = some (.slice (s.A 0) (s.n 0) (s.c 0)) := HB2.out.row.cell 2
  have ha3 : w2.cell? ⟨w.heap.size, 3, none⟩ = some (.slice (s.A 1) (s.n 1) (s.c 1)) := HB2.out.row.cell 3
  have ha4 : w2.cell? ⟨w.heap.size, 4, none⟩ = some (.slice (s.A 2) (s.n 2) (s.c 2)) := HB2.out.row.cell 4
  have ha5 : w2.cell? ⟨w.heap.size, 5, none⟩ = some (.slice (s.A 3) (s.n 3) (s.c 3)) := HB2.out.row.cell 5
  cases K
  · rw [show errP false = 160 from rfl]
    go_wp2_with fail
    exact bodyPost_ret (v := .tuple #[.slice none 0 0, .int .i64 160]) (by simp [results, Tryd.results6, go_sem]) rfl ⟨_, rfl, World.ownsRow_nil _ _ _ _, HB2.out.hb⟩
  · rw [show errP true = 0 from rfl]
    go_wp2_with fail
    refine (HBY.out _ HB2.out.hb trivial).mono ?_
    rintro e w3 ⟨v, rfl, ho, hb3⟩
    have HO := Lib.hid ho
    clear ho
    go_wp2
    exact bodyPost_ret (v := .tuple #[v, .int .i64 0]) (by simp [results, Tryd.results6, go_sem]) rfl ⟨_, rfl, HO.out.mono HB2.out.hb.size, HB2.out.hb.trans (hb3.mono HB2.out.hb.size)⟩
end Go.Proofs.YtnljhopikjkflaaDoor.Pg
