/-
  A page out of its sectors.
-/
import Derived.Test.YtnljhopikjkflaaDoorPgU
import Derived.Test.YtnljhopikjkflaaDoorPgF
namespace Go.Proofs.YtnljhopikjkflaaDoor.Pg
set_option maxRecDepth 100000
open Go.RowKit Go.Proofs.YtnljhopikjkflaaDoor.Wd Go.Proofs.YtnljhopikjkflaaDoor.Oct Go.Proofs.YtnljhopikjkflaaDoor.Dsk Go.Proofs.YtnljhopikjkflaaDoor.Rec Go.Proofs.YtnljhopikjkflaaDoor.Sum Go.Proofs.YtnljhopikjkflaaDoor.Sm

/-- sectors that lie at an address, their bytes behind one another -/
def SecAt (w : World) (A : Option Addr) (n : Nat) (l : List UInt8) : Prop :=
  l.length = 64 * n ∧ (0 < n → ∃ b o, A = some ⟨b, o, none⟩ ∧ b < w.heap.size ∧ ∀ k, k < n → w.rangeAt b (o + k * 64) (bv ((l.drop (64 * k)).take 64)))
theorem zeroB : (Tryd.prog.info? 53).bind (·.zero) = some (.agg (bv (List.replicate 64 0)).toArray) := by kernel_rfl
/-- what the rounds hold: the page's variable, the bytes so far -/
structure OfI (w : World) (l : List UInt8) (k : Nat) (v : Value) (W : World) : Prop where
  r4 : Row W w.heap.size 26 zcs
  ob : Own W (w.heap.size + 1) v (l.take (64 * k))
  hb : Below w.heap.size w W
  sz : w.heap.size + 1 ≤ W.heap.size
theorem OfI.new (w : World) (l : List UInt8) : OfI w l 0 (.slice none 0 0) (w.alloc (.cells zcs.toArray 26)) :=
  ⟨Row.new w _ _, World.ownsRow_nil _ _ _ _, (Below.refl _ _).alloc (Nat.le_refl _) _, by simp⟩
set_option maxHeartbeats 4000000 in
theorem of_any (number : Int) (A : Option Addr) (n c : Nat) (l : List UInt8) (w : World) (hs : SecAt w A n l) (hnc : n ≤ c) (hn : n ≤ 1000) (hA : A = none → c = 0) :
    Calls Tryd.prog 9 #[.int .i64 number, .slice A n c] w (DecP w (decM number (l.take (64 * min n 5)))) := by
  obtain ⟨i0, hi0, hz0, hz1, hz2⟩ := info_parts info5
  have HS := Lib.hid hs
  clear hs
  by_cases h5 : n ≤ 5
  · have h5' : ¬ 5 < (n : Int) := by omega
    rw [show min n 5 = n by omega]
    obtain ⟨D, hD⟩ : ∃ D, D = decM number (l.take (64 * n)) := ⟨_, rfl⟩
    rw [← hD]
    have HD := Lib.hid hD
    clear hD
    unfold DecP
    go_enter Tryd.func9, Tryd.ntmps9
    go_wp2_with fail
    go_loopw [6, 15] (fun t6 t15 wr => ∃ (k : Nat) (v : Value), k ≤ n ∧ t6 = v ∧ t15 = .int .i64 (k : Int) ∧ Hid (OfI w l k v wr)) (fun _ t _ => n - (intOf t).toNat)
    case atStart => exact ⟨0, _, by omega, rfl, rfl, OfI.new w l⟩
    case round =>
      obtain ⟨k, v, hk, rfl, rfl, HI⟩ := hrel
      obtain ⟨wk, hwk⟩ : ∃ wk : World, wk = wr := ⟨_, rfl⟩
      rw [← hwk] at HI ⊢
      clear hwk
      by_cases hlt : k < n
      · have h1 : (k : Int) < (n : Int) := by omega
        have h0 : 0 ≤ (k : Int) := by omega
        have hl64 := HS.out.1
        obtain ⟨b, o, rfl, hblt, hrg⟩ := HS.out.2 (by omega)
        obtain ⟨ch, hch⟩ : ∃ ch, ch = (l.drop (64 * k)).take 64 := ⟨_, rfl⟩
        have hc64 : ch.length = 64 := by rw [hch, List.length_take, List.length_drop]; omega
        have HR : Hid (wk.rangeAt b (o + k * 64) (bv ch)) := (show World.rangeAt _ _ _ _ from fun j u hu => (HI.out.hb.cell (p := ⟨b, o + k * 64 + j, none⟩) hblt).trans (hrg k (by omega) j u (by rw [← hch]; exact hu)))
        have HSZ : Hid ((Tryd.prog.info? 53).map (·.size) = some (bv ch).length) := (show _ = _ by rw [bv_length, hc64]; exact size58)
        have HNX : Hid (l.take (64 * (k + 1)) = l.take (64 * k) ++ ch) := (show _ = _ by rw [hch, show 64 * (k + 1) = 64 * k + 64 by omega, List.take_add])
        have HC64 := Lib.hid hc64
        have HB8 : Hid (Below wk.heap.size wk (wk.alloc (.cells (bv (List.replicate 64 0)).toArray 53))) := (show Below _ _ _ from (Below.refl _ _).alloc (Nat.le_refl _) _)
        have HR8 := Lib.hid (Row.new wk 53 (bv (List.replicate 64 0)))
        have HLE : Hid ((bv ch).length = (bv (List.replicate 64 0)).length) := (show _ = _ by rw [bv_length, hc64, bv_length, List.length_replicate])
        have HLT := Lib.hid hl64
        clear hch hc64 hrg hl64
        have hzb := zeroB
        go_upto_region 5 with (first
          | (with_reducible refine wpList_load_mid (op := ⟨some 18, _, _, _, _, _⟩) rfl 53 (.tmp 17) rfl b (o + k * 64) ?_ (bv ch) _ HR.out Tryd.underlying53 rfl HSZ.out ?_)
          | (with_reducible refine wpList_store_whole (op := ⟨none, _, _, _, _, _⟩) ?_ 53 (.tmp 8) (.tmp 18) ?_ wk.heap.size (bv ch) ?_ ?_ 53 (bv (List.replicate 64 0)) ?_ HLE.out bv_one HSZ.out ?_))
        all_goals try (first | rfl | exact HR8.out | (simp [Act.eval, go_sem]; done))
        intro w5 hr5 hg5
        have HR5 := Lib.hid hr5
        have hg5' : (wk.alloc (.cells (bv (List.replicate 64 0)).toArray 53)).grownBy w5 (some wk.heap.size) := hg5
        have HB5 : Hid (Below wk.heap.size wk w5) := (show Below _ _ _ from HB8.out.grown hg5' HB8.out.size (fun j e => Nat.le_of_eq (Option.some.inj e)))
        have HB5s := Lib.hid (Row.bs hr5 (Nat.lt_succ_self _))
        have HOB5 := Lib.hid (HI.out.ob.below HB5.out)
        have HSZ5 : Hid (w.heap.size + 1 ≤ w5.heap.size) := Nat.le_trans HI.out.sz HB5.out.size
        have hlk : (l.take (64 * k)).length ≤ 320 := by rw [List.length_take]; omega
        clear hr5 hg5 hg5' HR8 HB8 HLE HR hzb
        go_upto_region 6 with (first
          | (at_builtin; (refine wpList_append_bs (o := ⟨some 21, _, _, _, _, _⟩) rfl (.tmp 19) (.tmp 20) 23 rfl (w.heap.size + 1) 5 i0 (.int .u8 0) Tryd.underlying23 hi0 hz0 hz1 hz2 rfl u6 (l.take (64 * k)).length (bv (l.take (64 * k))) rfl HOB5.out (some ⟨wk.heap.size, 0, none⟩) 64 64 ch rfl HC64.out (wk.heap.size + 1) HB5s.out (fun h => by cases h) (by omega) HSZ5.out ?_; intro v2 w6 hown6 hg6)))
        have HN : Hid (OfI w l (k + 1) v2 w6) := by
          have hb6 : Below (w.heap.size + 1) w5 w6 := below_own hg6 (fun k hk => (World.ownsRow.lt HOB5.out k hk).1) HSZ5.out
          refine ⟨(HI.out.r4.below HB5.out HI.out.r4.lt).below hb6 (by omega), ?_, HI.out.hb.trans ((HB5.out.mono HI.out.hb.size).trans (hb6.mono (by omega))), Nat.le_trans HSZ5.out hb6.size⟩
          rw [HNX.out]
          unfold Own
          rw [List.length_append, bv_append, HC64.out]
          exact hown6
        clear hown6 hg6 HOB5 HB5 HB5s HR5 HSZ5 HNX HC64 HSZ HI hlk
        go_wp2
        go_roundw
        case rel => exact ⟨k + 1, v2, by omega, rfl, by go_num, HN⟩
        case measure => simp [intOf]; omega
      · have hkM : k = n := by omega
        rw [hkM] at HI ⊢
        clear hkM hlt hk
        obtain ⟨A2, n2, c2, rfl, hl2, -, -, hn2, hb2⟩ := HI.out.ob.open
        have hl2' : (l.take (64 * n)).length = n2 := hl2
        have HDE := Lib.hid (decode_any number A2 n2 c2 (l.take (64 * n)) wk hl2' (by rw [← hl2', List.length_take]; omega) hb2 hn2)
        unfold DecP at HDE
        rw [← HD.out] at HDE
        have HR4 := Lib.hid HI.out.r4
        have HBK := Lib.hid HI.out.hb
        clear hl2 hl2' hn2 hb2 HI HS
        go_wp2_with fail
        refine HDE.out.mono ?_
        rintro e w7 ⟨s7, rfl, hpo, hb7⟩
        have HR7 := Lib.hid (HR4.out.below hb7 HR4.out.lt)
        have HPO7 := Lib.hid hpo
        have HB7 := Lib.hid (HBK.out.trans (hb7.mono HBK.out.size))
        have HWK := Lib.hid HBK.out.size
        clear hpo hb7 HR4
        have HONE : Hid (∀ v ∈ pcs D.num D.lsn s7, v.oneCell' = true) := pcs_one
        have HPI : Hid ((Tryd.prog.info? 26).map (·.size) = some (pcs D.num D.lsn s7).length) := page_info
        have HLE : Hid ((pcs D.num D.lsn s7).length = zcs.length) := (rfl : _ = _)
        go_wp2_with ((with_reducible refine wpList_store_whole (op := ⟨none, _, _, _, _, _⟩) ?_ 26 (.tmp 4) (.tmp 26) ?_ w.heap.size (pcs D.num D.lsn s7) ?_ ?_ 26 zcs HR7.out HLE.out HONE.out HPI.out ?_))
        all_goals try (first | rfl | (simp; done))
        intro w8 hr8 hg8
        have HRES := Lib.hid (run_loadVar_mid (P := Tryd.prog) w8 w.heap.size 0 26 (pcs D.num D.lsn s7) _ (Row.all hr8) Tryd.underlying26 rfl HPI.out)
        have HB8 := Lib.hid (HB7.out.grown hg8 HB7.out.size (fun k hk => by have := Option.some.inj hk; omega))
        have HPO8 : Hid (PO w8 w.heap.size D.sl s7) := fun j hj => ((HPO7.out j hj).kept hg8 (own_ne (HPO7.out j hj) HR7.out (by decide))).mono HWK.out
        clear hr8 hg8
        go_wp2
        exact bodyPost_ret (v := .tuple #[.agg (pcs D.num D.lsn s7).toArray, .int .i64 D.err]) (res_cell_tmp (p := 4) (q := 5) (ty := 26) rfl _ _ ⟨w.heap.size, 0, none⟩ _ _ rfl HRES.out rfl) rfl ⟨s7, rfl, HPO8.out, HB8.out⟩
  · have h5' : 5 < (n : Int) := by omega
    rw [show min n 5 = 5 by omega]
    obtain ⟨D, hD⟩ : ∃ D, D = decM number (l.take (64 * 5)) := ⟨_, rfl⟩
    rw [← hD]
    have HD := Lib.hid hD
    clear hD
    unfold DecP
    go_enter Tryd.func9, Tryd.ntmps9
    go_wp2_with fail
    go_loopw [6, 15] (fun t6 t15 wr => ∃ (k : Nat) (v : Value), k ≤ 5 ∧ t6 = v ∧ t15 = .int .i64 (k : Int) ∧ Hid (OfI w l k v wr)) (fun _ t _ => 5 - (intOf t).toNat)
    case atStart => exact ⟨0, _, by omega, rfl, rfl, OfI.new w l⟩
    case round =>
      obtain ⟨k, v, hk, rfl, rfl, HI⟩ := hrel
      obtain ⟨wk, hwk⟩ : ∃ wk : World, wk = wr := ⟨_, rfl⟩
      rw [← hwk] at HI ⊢
      clear hwk
      by_cases hlt : k < 5
      · have h1 : (k : Int) < 5 := by omega
        have h0 : 0 ≤ (k : Int) := by omega
        have hl64 := HS.out.1
        obtain ⟨b, o, rfl, hblt, hrg⟩ := HS.out.2 (by omega)
        obtain ⟨ch, hch⟩ : ∃ ch, ch = (l.drop (64 * k)).take 64 := ⟨_, rfl⟩
        have hc64 : ch.length = 64 := by rw [hch, List.length_take, List.length_drop]; omega
        have HR : Hid (wk.rangeAt b (o + k * 64) (bv ch)) := (show World.rangeAt _ _ _ _ from fun j u hu => (HI.out.hb.cell (p := ⟨b, o + k * 64 + j, none⟩) hblt).trans (hrg k (by omega) j u (by rw [← hch]; exact hu)))
        have HSZ : Hid ((Tryd.prog.info? 53).map (·.size) = some (bv ch).length) := (show _ = _ by rw [bv_length, hc64]; exact size58)
        have HNX : Hid (l.take (64 * (k + 1)) = l.take (64 * k) ++ ch) := (show _ = _ by rw [hch, show 64 * (k + 1) = 64 * k + 64 by omega, List.take_add])
        have HC64 := Lib.hid hc64
        have HB8 : Hid (Below wk.heap.size wk (wk.alloc (.cells (bv (List.replicate 64 0)).toArray 53))) := (show Below _ _ _ from (Below.refl _ _).alloc (Nat.le_refl _) _)
        have HR8 := Lib.hid (Row.new wk 53 (bv (List.replicate 64 0)))
        have HLE : Hid ((bv ch).length = (bv (List.replicate 64 0)).length) := (show _ = _ by rw [bv_length, hc64, bv_length, List.length_replicate])
        have HLT := Lib.hid hl64
        clear hch hc64 hrg hl64
        have hzb := zeroB
        go_upto_region 5 with (first
          | (with_reducible refine wpList_load_mid (op := ⟨some 18, _, _, _, _, _⟩) rfl 53 (.tmp 17) rfl b (o + k * 64) ?_ (bv ch) _ HR.out Tryd.underlying53 rfl HSZ.out ?_)
          | (with_reducible refine wpList_store_whole (op := ⟨none, _, _, _, _, _⟩) ?_ 53 (.tmp 8) (.tmp 18) ?_ wk.heap.size (bv ch) ?_ ?_ 53 (bv (List.replicate 64 0)) ?_ HLE.out bv_one HSZ.out ?_))
        all_goals try (first | rfl | exact HR8.out | (simp [Act.eval, go_sem]; done))
        intro w5 hr5 hg5
        have HR5 := Lib.hid hr5
        have hg5' : (wk.alloc (.cells (bv (List.replicate 64 0)).toArray 53)).grownBy w5 (some wk.heap.size) := hg5
        have HB5 : Hid (Below wk.heap.size wk w5) := (show Below _ _ _ from HB8.out.grown hg5' HB8.out.size (fun j e => Nat.le_of_eq (Option.some.inj e)))
        have HB5s := Lib.hid (Row.bs hr5 (Nat.lt_succ_self _))
        have HOB5 := Lib.hid (HI.out.ob.below HB5.out)
        have HSZ5 : Hid (w.heap.size + 1 ≤ w5.heap.size) := Nat.le_trans HI.out.sz HB5.out.size
        have hlk : (l.take (64 * k)).length ≤ 320 := by rw [List.length_take]; omega
        clear hr5 hg5 hg5' HR8 HB8 HLE HR hzb
        go_upto_region 6 with (first
          | (at_builtin; (refine wpList_append_bs (o := ⟨some 21, _, _, _, _, _⟩) rfl (.tmp 19) (.tmp 20) 23 rfl (w.heap.size + 1) 5 i0 (.int .u8 0) Tryd.underlying23 hi0 hz0 hz1 hz2 rfl u6 (l.take (64 * k)).length (bv (l.take (64 * k))) rfl HOB5.out (some ⟨wk.heap.size, 0, none⟩) 64 64 ch rfl HC64.out (wk.heap.size + 1) HB5s.out (fun h => by cases h) (by omega) HSZ5.out ?_; intro v2 w6 hown6 hg6)))
        have HN : Hid (OfI w l (k + 1) v2 w6) := by
          have hb6 : Below (w.heap.size + 1) w5 w6 := below_own hg6 (fun k hk => (World.ownsRow.lt HOB5.out k hk).1) HSZ5.out
          refine ⟨(HI.out.r4.below HB5.out HI.out.r4.lt).below hb6 (by omega), ?_, HI.out.hb.trans ((HB5.out.mono HI.out.hb.size).trans (hb6.mono (by omega))), Nat.le_trans HSZ5.out hb6.size⟩
          rw [HNX.out]
          unfold Own
          rw [List.length_append, bv_append, HC64.out]
          exact hown6
        clear hown6 hg6 HOB5 HB5 HB5s HR5 HSZ5 HNX HC64 HSZ HI hlk
        go_wp2
        go_roundw
        case rel => exact ⟨k + 1, v2, by omega, rfl, by go_num, HN⟩
        case measure => simp [intOf]; omega
      · have hkM : k = 5 := by omega
        rw [hkM] at HI ⊢
        clear hkM hlt hk
        obtain ⟨A2, n2, c2, rfl, hl2, -, -, hn2, hb2⟩ := HI.out.ob.open
        have hl2' : (l.take (64 * 5)).length = n2 := hl2
        have HDE := Lib.hid (decode_any number A2 n2 c2 (l.take (64 * 5)) wk hl2' (by rw [← hl2', List.length_take]; omega) hb2 hn2)
        unfold DecP at HDE
        rw [← HD.out] at HDE
        have HR4 := Lib.hid HI.out.r4
        have HBK := Lib.hid HI.out.hb
        clear hl2 hl2' hn2 hb2 HI HS
        go_wp2_with fail
        refine HDE.out.mono ?_
        rintro e w7 ⟨s7, rfl, hpo, hb7⟩
        have HR7 := Lib.hid (HR4.out.below hb7 HR4.out.lt)
        have HPO7 := Lib.hid hpo
        have HB7 := Lib.hid (HBK.out.trans (hb7.mono HBK.out.size))
        have HWK := Lib.hid HBK.out.size
        clear hpo hb7 HR4
        have HONE : Hid (∀ v ∈ pcs D.num D.lsn s7, v.oneCell' = true) := pcs_one
        have HPI : Hid ((Tryd.prog.info? 26).map (·.size) = some (pcs D.num D.lsn s7).length) := page_info
        have HLE : Hid ((pcs D.num D.lsn s7).length = zcs.length) := (rfl : _ = _)
        go_wp2_with ((with_reducible refine wpList_store_whole (op := ⟨none, _, _, _, _, _⟩) ?_ 26 (.tmp 4) (.tmp 26) ?_ w.heap.size (pcs D.num D.lsn s7) ?_ ?_ 26 zcs HR7.out HLE.out HONE.out HPI.out ?_))
        all_goals try (first | rfl | (simp; done))
        intro w8 hr8 hg8
        have HRES := Lib.hid (run_loadVar_mid (P := Tryd.prog) w8 w.heap.size 0 26 (pcs D.num D.lsn s7) _ (Row.all hr8) Tryd.underlying26 rfl HPI.out)
        have HB8 := Lib.hid (HB7.out.grown hg8 HB7.out.size (fun k hk => by have := Option.some.inj hk; omega))
        have HPO8 : Hid (PO w8 w.heap.size D.sl s7) := fun j hj => ((HPO7.out j hj).kept hg8 (own_ne (HPO7.out j hj) HR7.out (by decide))).mono HWK.out
        clear hr8 hg8
        go_wp2
        exact bodyPost_ret (v := .tuple #[.agg (pcs D.num D.lsn s7).toArray, .int .i64 D.err]) (res_cell_tmp (p := 4) (q := 5) (ty := 26) rfl _ _ ⟨w.heap.size, 0, none⟩ _ _ rfl HRES.out rfl) rfl ⟨s7, rfl, HPO8.out, HB8.out⟩
end Go.Proofs.YtnljhopikjkflaaDoor.Pg
