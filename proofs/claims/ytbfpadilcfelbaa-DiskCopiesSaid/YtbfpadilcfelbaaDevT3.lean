/-
  The reference's live and all.
-/
import Derived.Test.YtbfpadilcfelbaaDevT2
import Derived.Test.YtbfpadilcfelbaaDevS1
namespace Go.Proofs.Ytbfpadilcfelbaa.Dsk
open Go.RowKit Go.Proofs.Ytbfpadilcfelbaa.Wd

/-- append of elements of k cells, none or some, to a row of the call's own -/
theorem wpList_append_k {P : Program} {w : World} {ops : Array Oper} {rest : List Oper} {o : Oper} {a : Act} {Q : Exit → Act → World → Prop} (hgd : o.guard = none) (s x : Operand) (t : TypeId)
    (ho : o.op = .call { callee := .builtin .append, args := #[s, x], argTypes := #[t, t] })
    (base : Nat) (e : TypeId) (i : TypeInfo) (z : Value) (size bytes : Nat) (ht : P.underlying t = some (.slice e)) (hi : P.info? e = some i) (hz : i.zero = some z) (hsize : i.size = size) (hby : i.bytes = bytes) (hzs : z.cells.size = size) (hsz : 0 < size)
    (v : Value) (n : Nat) (xs : List Value) (hs : a.eval s = v) (hown : w.ownsRow base e size v n xs)
    (A : Option Addr) (m c : Nat) (vs : List Value) (hx : a.eval x = .slice A m c) (hl : vs.length = m * size) (B : Nat) (hr : Vs w B A vs) (h1 : ∀ u ∈ vs, u.oneCell' = true) (hA : A = none → c = 0)
    (h63 : n + m ≤ maxLen) (hb : (n + m) * bytes ≤ 140737488355328) (hbase : base ≤ w.heap.size)
    (h : ∀ v' w', w'.ownsRow base e size v' (n + m) (xs ++ vs) → w.grownBy w' v.ownBlock → wpList P ops Q rest (a.put o.dst v') w') : wpList P ops Q (o :: rest) a w := by
  cases A with
  | none =>
    have h0 : m = 0 := by
      rcases Nat.eq_zero_or_pos m with h0 | h0
      · exact h0
      · obtain ⟨b, o, e, _⟩ := hr (by rw [hl]; exact Nat.mul_pos h0 hsz)
        cases e
    subst h0
    obtain rfl := hA rfl
    obtain rfl : vs = [] := List.eq_nil_of_length_eq_zero (by rw [hl, Nat.zero_mul])
    refine wpList_plain hgd fun K hK' => ?_
    have hrun := run_append_owned_none (P := P) w base t o.type e i size ht hi v n xs hown
    unfold Oper.wp
    simp [execOp, ho, resolve, invoke, builtin, hs, hx, hrun, Result.andThen]
    exact hK' _ _ (h v w (by simpa using hown) (World.grownBy.refl _ _))
  | some ad =>
    refine wpList_plain hgd fun K hK' => wp_append_own w s x t ho base e i z size bytes ht hi hz hsize hby hzs hsz v n xs hs hown ad m c vs hx hl (fun j u hu => ?_) h1 h63 hb hbase fun v' w' h2 h3 _ => hK' _ _ (h v' w' h2 h3)
    have hj : j < vs.length := (List.getElem?_eq_some_iff.1 hu).1
    obtain ⟨b, o, e, _, hc⟩ := hr (by omega)
    obtain rfl := Option.some.inj e
    rw [Addr.add_lit, hc j u hu]
/-- blocks, cell by cell -/
theorem Blks.vs {w : World} {B : Nat} {A : Option Addr} {ls : List (List UInt8)} (h : Blks w B A ls) : Vs w B A (bv ls.flatten) := fun hp => by
  by_cases h0 : ls.length = 0
  · rw [List.eq_nil_of_length_eq_zero h0] at hp; exact absurd hp (by simp [bv])
  obtain ⟨b, o, e, hlt, hr⟩ := h (by omega)
  refine ⟨b, o, e, hlt, fun j v hj => ?_⟩
  have h64 : ∀ x ∈ ls, x.length = 64 := fun x hx => by
    obtain ⟨i, hi, rfl⟩ := List.getElem_of_mem hx
    have := (hr i hi).1
    simpa [List.getD_eq_getElem?_getD, hi] using this
  have hjl : j < ls.length * 64 := by
    have := (List.getElem?_eq_some_iff.1 hj).1
    rwa [bv_length, flat_len ls h64] at this
  have hi : j / 64 < ls.length := by omega
  have hf := flat_get ls (j / 64) (j % 64) h64 hi (Nat.mod_lt _ (by omega))
  rw [show j / 64 * 64 + j % 64 = j from by omega] at hf
  have h1 := (hr (j / 64) hi).2 (j % 64) v (by
    simp only [bv, List.getElem?_map] at hj ⊢
    rw [← hf]; exact hj)
  rwa [show o + j / 64 * 64 + j % 64 = o + j from by omega] at h1
theorem splice_more {α : Type} (L rest vs : List α) (o : Nat) (h : o + vs.length ≤ L.length) : splice (L ++ rest) o vs = splice L o vs ++ rest := by
  unfold splice
  rw [List.take_append_of_le_length (by omega), List.drop_append_of_le_length h]
  simp
theorem own_row {w : World} {base n size : Nat} {t : TypeId} {v : Value} {xs : List Value} (h : w.ownsRow base t size v n xs) (hn : 0 < n) :
    ∃ g cap rest, v = .slice (some ⟨g, 0, none⟩) n cap ∧ base ≤ g ∧ n ≤ cap ∧ Row w g t (xs ++ rest) ∧ xs.length = n * size := by
  rcases h.2 with ⟨_, h0⟩ | ⟨g, cap, cur, rfl, hb, hg, hnc, hcm, hs, ht⟩
  · omega
  · refine ⟨g, cap, cur.toList.drop (n * size), rfl, hb, hnc, ?_, h.1⟩
    rw [← ht, List.take_append_drop]
    show _ = _
    rw [hg]
theorem liveR_64 {safe : List (List UInt8)} {pend : List (Int × List UInt8)} {keep : List Bool} (hs : ∀ b ∈ safe, b.length = 64) (hp : ∀ p ∈ pend, p.2.length = 64) : ∀ k, k ≤ pend.length → ∀ b ∈ liveR safe pend keep k, b.length = 64
  | 0, _ => hs
  | k + 1, hk => fun b hb => by
    rw [liveR_succ] at hb
    split at hb
    · rcases List.mem_or_eq_of_mem_set hb with hb | rfl
      · exact liveR_64 hs hp k (by omega) b hb
      · exact hp (pend.getD k (0, [])) (by rw [List.getD_eq_getElem?_getD, List.getElem?_eq_getElem (by omega)]; exact List.getElem_mem _)
    · exact liveR_64 hs hp k (by omega) b hb

set_option maxRecDepth 100000 in
set_option maxHeartbeats 4000000 in
theorem rlive_any (x : RA) (r : RX) (xs : List Nat) (Ak : Option Addr) (nk ck : Nat) (kl : List Bool) (w : World) (h : RVat w xs x r) (hg : RL x) (hk : kl.length = nk) (hv : Vs w w.heap.size Ak (bools kl)) :
    Calls Try.prog 46 #[x.val r, .slice Ak nk ck] w fun e w' => ∃ gs cap, e = .returned ((x.lives kl).val ⟨some ⟨gs, 0, none⟩, r.n, cap, none, 0, 0⟩) ∧ w.heap.size ≤ gs ∧ gs < w'.heap.size ∧ r.n ≤ cap ∧ Blks w' w'.heap.size (some ⟨gs, 0, none⟩) (x.lives kl).safe ∧ Below w.heap.size w w' := by
  obtain ⟨safe, pend, dead, left, fails, ops⟩ := x
  obtain ⟨A, n, c, A2, m, c2⟩ := r
  have hsl : safe.length = n := h.sl
  have hpl : pend.length = m := h.pl
  have hs64 : ∀ b ∈ safe, b.length = 64 := by
    obtain ⟨_, _, _, _, h1⟩ := h.sb (by have := hg.len.1; exact this)
    intro b hb
    obtain ⟨i, hi, rfl⟩ := List.getElem_of_mem hb
    have := (h1 i hi).1
    simpa [List.getD_eq_getElem?_getD, hi] using this
  have hn1 : 1 ≤ n := by have : 1 ≤ safe.length := hg.len.1; omega
  have hn2 : n ≤ 2048 := by have : safe.length ≤ 2048 := hg.len.2; omega
  have hm1 : m ≤ 1000000 := by have : pend.length ≤ 1000000 := hg.few; omega
  have HS64 := Lib.hid hs64
  have HRV := Lib.hid h
  have HGD := Lib.hid hg
  have HSL := Lib.hid hsl
  have HPL := Lib.hid hpl
  have HK := Lib.hid hk
  have HV := Lib.hid hv
  have hA0 : Hid (A = none → c = 0) := h.n0
  obtain ⟨ie, hie, hz0, hz1, hz2⟩ := info_parts info39
  have HIE := Lib.hid hie
  have HZ0 : Hid (ie.zero = some (blk nought)) := hz0
  have HZ1 := Lib.hid hz1
  have HZ2 := Lib.hid hz2
  clear h hg hsl hpl hk hv hs64 hie hz0 hz1 hz2
  obtain ⟨W1, hW1⟩ : ∃ W1, W1 = w.alloc (.cells (rcs ⟨A, n, c, A2, m, c2⟩ dead left fails ops).toArray 31) := ⟨_, rfl⟩
  obtain ⟨W2, hW2⟩ : ∃ W2, W2 = W1.alloc (.cells rz.toArray 31) := ⟨_, rfl⟩
  obtain ⟨W3, hW3⟩ : ∃ W3, W3 = W2.alloc (.cells #[] 39) := ⟨_, rfl⟩
  have s1 : W1.heap.size = w.heap.size + 1 := by rw [hW1]; simp
  have s2 : W2.heap.size = w.heap.size + 1 + 1 := by rw [hW2]; simp [s1]
  have s3 : W3.heap.size = w.heap.size + 1 + 1 + 1 := by rw [hW3]; simp [s2]
  have R0 : Hid (Row W3 w.heap.size 31 (rcs ⟨A, n, c, A2, m, c2⟩ dead left fails ops)) := (show Row _ _ _ _ by rw [hW3, hW2, hW1]; exact ((Row.new w _ (rcs ⟨A, n, c, A2, m, c2⟩ dead left fails ops)).alloc _).alloc _)
  have R1 : Hid (Row W3 (w.heap.size + 1) 31 rz) := (show Row _ _ _ _ by
    have := (Row.new W1 31 rz).alloc (.cells #[] 39)
    rw [s1] at this
    rw [hW3, hW2]; exact this)
  have HB3 : Hid (Below w.heap.size w W3) := (show Below _ _ _ by
    rw [hW3, hW2, hW1]
    exact (((Below.refl _ _).alloc (Nat.le_refl _) _).alloc (by simp) _).alloc (by simp; omega) _)
  have OW : Hid (W3.ownsRow (w.heap.size + 1 + 1) 39 64 (.slice (some ⟨w.heap.size + 1 + 1, 0, none⟩) 0 0) 0 []) := (show World.ownsRow _ _ _ _ _ _ _ by
    have : (W2.alloc (.cells #[] 39)).ownsRow W2.heap.size 39 64 (.slice (some ⟨W2.heap.size, 0, none⟩) 0 0) 0 [] := World.ownsRow_made W2 #[] 0 (Nat.le_refl _) (Nat.zero_le _) rfl
    rw [s2] at this
    rw [hW3]; exact this)
  have HW : Hid (W3 = ((w.alloc (.cells (rcs ⟨A, n, c, A2, m, c2⟩ dead left fails ops).toArray 31)).alloc (.cells rz.toArray 31)).alloc (.cells #[] 39)) := (show _ = _ by rw [hW3, hW2, hW1])
  have VSF : Hid (Vs W3 w.heap.size A (bv safe.flatten)) := (HRV.out.sb.vs).below HB3.out
  clear hW1 hW2 hW3 s1 s2
  show Calls _ _ #[.agg #[.slice A n c, .slice A2 m c2, .bool dead, .int .i64 left, .int .i64 fails, .int .i64 ops], .slice Ak nk ck] w _
  go_enter Try.func46, Try.ntmps46
  go_wp2_with (first
    | (at_builtin; refine wpList_append_k (o := ⟨some 11, _, _, _, _, _⟩) rfl (.tmp 8) (.tmp 10) 28 rfl (w.heap.size + 1 + 1) 39 ie (blk nought) 64 64 Try.underlying28 HIE.out HZ0.out HZ1.out HZ2.out rfl (by decide) (.slice (some ⟨w.heap.size + 1 + 1, 0, none⟩) 0 0) 0 [] rfl ?own A n c (bv safe.flatten) rfl ?len w.heap.size ?vs bv_one hA0.out (by unfold maxLen; omega) (by omega) ?siz ?next))
  case own => have := OW.out; rw [HW.out] at this; exact this
  case len => rw [bv_length, flat_len _ HS64.out, HSL.out]
  case vs => have := VSF.out; rw [HW.out] at this; exact this
  case siz => simp
  case next =>
  intro v w2 hown hgr
  have hgr' : W3.grownBy w2 (some (w.heap.size + 1 + 1)) := by rw [HW.out]; exact hgr
  obtain ⟨gs, cap, rest, rfl, hgs, hcap, hrow, _⟩ := own_row hown hn1
  have HG := Lib.hid hrow
  have G0 := Lib.hid (R0.out.grown hgr' (by simp; omega))
  have G1 := Lib.hid (R1.out.grown hgr' (by simp))
  have HBG := Lib.hid (HB3.out.grown hgr' HB3.out.size (fun j hj => by simp at hj; omega))
  have s4 : w.heap.size + 1 + 1 + 1 ≤ w2.heap.size := by have := hgr'.size; omega
  have c1 : w2.cell? ⟨w.heap.size, 1, none⟩ = some (.slice A2 m c2) := G0.out.cell 1
  clear hgr hgr' hown hrow R0 R1 HB3 OW HW VSF s3
  go_wp2
  clear c1
  go_loopw [15] (fun i wr => ∃ k : Nat, k ≤ m ∧ i = .int .i64 k ∧ Hid (Row wr gs 39 (bv (liveR safe pend kl k).flatten ++ rest)) ∧ Hid (Row wr w.heap.size 31 (rcs ⟨A, n, c, A2, m, c2⟩ dead left fails ops)) ∧ Hid (Row wr (w.heap.size + 1) 31 rz) ∧ Hid (Below w.heap.size w wr)) (fun i _ => m - (intOf i).toNat)
  case atStart => exact ⟨0, by omega, rfl, HG, G0, G1, HBG⟩
  rename World => wr
  obtain ⟨k, hk, rfl, KG, K0, K1, HB⟩ := hrel
  clear HG G0 G1 HBG s4
  have hgl : gs < wr.heap.size := KG.out.lt
  by_cases hlt : k < m
  case neg =>
    obtain rfl : k = m := by omega
    have c0 : wr.cell? ⟨w.heap.size, 0, none⟩ = some (.slice A n c) := K0.out.cell 0
    have c1 : wr.cell? ⟨w.heap.size, 1, none⟩ = some (.slice A2 k c2) := K0.out.cell 1
    have f0 := K0.out.frozen 0
    have f1 := K0.out.frozen 1
    obtain ⟨wx, hwx⟩ : ∃ wx, wx = (wr.setCell ⟨w.heap.size, 0, none⟩ (.slice (some ⟨gs, 0, none⟩) n cap)).setCell ⟨w.heap.size, 1, none⟩ (.slice none 0 0) := ⟨_, rfl⟩
    have X0 : Hid (Row wx w.heap.size 31 (rcs ⟨some ⟨gs, 0, none⟩, n, cap, none, 0, 0⟩ dead left fails ops)) := (show Row _ _ _ _ by rw [hwx]; exact (K0.out.store 0 _).store 1 _)
    have X1 : Hid (Row wx (w.heap.size + 1) 31 rz) := (show Row _ _ _ _ by rw [hwx]; exact (K1.out.far (by simp) _).far (by simp) _)
    have XG : Hid (Row wx gs 39 (bv (liveR safe pend kl k).flatten ++ rest)) := (show Row _ _ _ _ by rw [hwx]; exact (KG.out.far (by simp; omega) _).far (by simp; omega) _)
    have XB : Hid (Below w.heap.size w wx) := (show Below _ _ _ by rw [hwx]; exact (HB.out.setCell (p := ⟨w.heap.size, 0, none⟩) (Nat.le_refl _) _).setCell (p := ⟨w.heap.size, 1, none⟩) (Nat.le_refl _) _)
    have HWX := Lib.hid hwx
    clear hwx K0 K1 KG HB
    go_wp2_with (first
      | (with_reducible refine wpList_load_mid (op := ⟨some 40, _, _, _, _, _⟩) ?_ 31 (.tmp 2) (by rfl) w.heap.size 0 ?_ (rcs ⟨some ⟨gs, 0, none⟩, n, cap, none, 0, 0⟩ dead left fails ops) _ ?_ Try.underlying31 ?_ ?_ ?_)
      | (with_reducible refine wpList_store_in (op := ⟨none, _, _, _, _, _⟩) ?_ 31 (.tmp 4) (.tmp 40) (by rfl) (w.heap.size + 1) 0 (rcs ⟨some ⟨gs, 0, none⟩, n, cap, none, 0, 0⟩ dead left fails ops) ?_ ?_ 31 rz ?_ ?_ (rcs_one _ _ _ _ _) ?_ ?_))
    all_goals try (first | rfl | (rw [← HWX.out]; exact Row.all X0.out) | (rw [← HWX.out]; exact X1.out) | exact size31 | exact size39 | (show 0 + 6 ≤ 6; decide) | (show 0 + 64 ≤ 64; decide))
    rw [← HWX.out]
    intro w3 hr hgr
    rw [splice_all _ _ (by rfl)] at hr
    have Y1 := Lib.hid hr
    have YG := Lib.hid (XG.out.grown hgr (by simp; omega))
    have YB := Lib.hid (XB.out.grown hgr XB.out.size (fun j hj => by simp at hj; omega))
    have hgw3 : gs < w3.heap.size := YG.out.lt
    have hl64 : ∀ b ∈ liveR safe pend kl k, b.length = 64 := liveR_64 (keep := kl) HS64.out (fun p hp => (HGD.out.inr p hp).2.2) k (by rw [HPL.out]; exact Nat.le_refl _)
    have hln : (liveR safe pend kl k).length = n := by rw [liveR_len, HSL.out]
    have hkp : k = pend.length := HPL.out.symm
    clear hr hgr X1 X0 XG XB HWX c0 c1 f0 f1
    go_wp2
    refine bodyPost_ret (v := .agg (rcs ⟨some ⟨gs, 0, none⟩, n, cap, none, 0, 0⟩ dead left fails ops).toArray) (results_cell (p := 4) (ty := 31) rfl _ _ ⟨w.heap.size + 1, 0, none⟩ _ rfl (run_load_rcs _ _ _ rfl Y1.out)) rfl ⟨gs, cap, rfl, by omega, hgw3, hcap, ?_, YB.out⟩
    rw [hkp] at YG hl64 hln
    intro _
    refine ⟨gs, 0, rfl, hgw3, fun i hi => ?_⟩
    have hi' : i < (liveR safe pend kl pend.length).length := hi
    have h64i : ((liveR safe pend kl pend.length).getD i []).length = 64 := hl64 _ (by rw [List.getD_eq_getElem?_getD, List.getElem?_eq_getElem hi']; exact List.getElem_mem _)
    refine ⟨h64i, Row.range YG.out fun j v hj => ?_⟩
    have hj64 : j < 64 := by have := (List.getElem?_eq_some_iff.1 hj).1; rw [bv_length] at this; have e : ((({ safe := safe, pend := pend, dead := dead, left := left, fails := fails, ops := ops } : RA).lives kl).safe.getD i []).length = 64 := h64i; omega
    have hf := flat_get (liveR safe pend kl pend.length) i j hl64 hi' hj64
    rw [Nat.zero_add, List.getElem?_append_left (by rw [bv_length, flat_len _ hl64]; omega)]
    simp only [bv, List.getElem?_map] at hj ⊢
    rw [hf]; exact hj
  have hkp : k < pend.length := by rw [HPL.out]; exact hlt
  obtain ⟨b3, o3, rfl, hb3, hr3⟩ := HRV.out.pb (by show 0 < pend.length; omega)
  obtain ⟨h65, hrg3⟩ := hr3 k hkp
  have hrg4 := range_below hrg3 HB.out hb3
  have hin := HGD.out.inr (pend.getD k (0, [])) (by show pend.getD k (0, []) ∈ pend; rw [List.getD_eq_getElem?_getD, List.getElem?_eq_getElem hkp]; exact List.getElem_mem _)
  have HLS := Lib.hid (liveR_succ safe pend kl k)
  obtain ⟨p, hpk⟩ : ∃ p, p = pend.getD k (0, []) := ⟨_, rfl⟩
  have h65' : p.2.length = 64 := by rw [hpk]; exact h65
  have hrg5 : wr.rangeAt b3 (o3 + k * 65) (wcs p) := by rw [hpk]; exact hrg4
  rw [← hpk] at hin HLS
  have hsn : (safe.length : Int) = (n : Int) := by rw [HSL.out]
  have hin0 := hin.1
  have hin1 : p.1 < (n : Int) := by have := hin.2.1; show p.1 < _; rw [← hsn]; exact this
  obtain ⟨pa, pb⟩ := p
  obtain ⟨q, rfl⟩ := Int.eq_ofNat_of_zero_le hin0
  have hqn : q < n := by have : ((q : Nat) : Int) < (n : Int) := hin1; omega
  have HR4 := Lib.hid hrg5
  have H65 : Hid (pb.length = 64) := h65'
  have HWL : Hid ((wcs ((q : Int), pb)).length = 65) := wcs_len _ h65'
  have RN := Lib.hid (Row.new wr 72 (wcs (0, nought)))
  have hz72 := zero73
  clear hr3 hrg3 hrg4 hrg5 h65 h65' hpk hin hin0 hin1 hsn
  go_wp2_with (first
    | (with_reducible refine wpList_load_mid (op := ⟨some 19, _, _, _, _, _⟩) ?_ 72 (.tmp 18) ?_ b3 (o3 + k * 65) ?_ (wcs ((q : Int), pb)) _ HR4.out Try.underlying72 ?_ ?_ ?_)
    | (with_reducible refine wpList_store_in (op := ⟨none, _, _, _, _, _⟩) ?_ 72 (.tmp 7) (.tmp 19) ?_ wr.heap.size 0 (wcs ((q : Int), pb)) ?_ ?_ 72 (wcs (0, nought)) ?_ ?_ (wcs_one _) ?_ ?_))
  all_goals try (first | rfl | exact RN.out | (rw [HWL.out]; exact size73) | (rw [HWL.out]; decide))
  intro w5 hr5 hg5
  rw [splice_all _ _ (by rw [HWL.out]; rfl)] at hr5
  have hg5' : (wr.alloc (.cells (wcs (0, nought)).toArray 72)).grownBy w5 (some wr.heap.size) := hg5
  have hbs := HB.out.size
  have L0 := Lib.hid ((K0.out.alloc (.cells (wcs (0, nought)).toArray 72)).grown hg5' (by have := K0.out.lt; simp; omega))
  have L1 := Lib.hid ((K1.out.alloc (.cells (wcs (0, nought)).toArray 72)).grown hg5' (by have := K1.out.lt; simp; omega))
  have LG := Lib.hid ((KG.out.alloc (.cells (wcs (0, nought)).toArray 72)).grown hg5' (by simp; omega))
  have LB := Lib.hid ((HB.out.alloc hbs (.cells (wcs (0, nought)).toArray 72)).grown hg5' (by simp; omega) (fun j hj => by simp at hj; omega))
  have q0 : w5.cell? ⟨wr.heap.size, 0, none⟩ = some (.int .i64 (q : Int)) := hr5.cell 0
  have HR5 : Hid (w5.rangeAt wr.heap.size 1 (bv pb)) := (show World.rangeAt _ _ _ _ from Row.range hr5 fun j v hj => by rw [Nat.add_comm]; exact hj)
  clear hr5 hg5 hg5' hz72 RN HR4 K0 K1 KG HB HWL
  by_cases hkn : k < nk
  case neg =>
    have hno : kl.getD k false = false := by rw [List.getD_eq_getElem?_getD, List.getElem?_eq_none (by rw [HK.out]; omega)]; rfl
    have hki : decide ((k : Int) < (nk : Int)) = false := by simp; omega
    rw [hno] at HLS
    have HE : Hid (liveR safe pend kl (k + 1) = liveR safe pend kl k) := (show _ = _ by rw [HLS.out]; rfl)
    clear HLS hno
    go_wp2
    go_roundw
    case rel => exact ⟨k + 1, by omega, by go_num, (show Row _ _ _ _ by rw [HE.out]; exact LG.out), L0, L1, LB⟩
    case measure => simp [intOf]; omega
  obtain ⟨bk, ok, rfl, hbk, hrk⟩ := HV.out (by simp [bools, HK.out]; omega)
  have hbv : (bools kl)[k]? = some (.bool (kl.getD k false)) := by simp [bools, List.getD_eq_getElem?_getD, show k < kl.length by rw [HK.out]; exact hkn]
  have hkc : w5.cell? ⟨bk, ok + k, none⟩ = some (.bool (kl.getD k false)) := (LB.out.cell (p := ⟨bk, ok + k, none⟩) hbk).trans (hrk k _ hbv)
  have hki : (k : Int) < (nk : Int) := by omega
  clear hrk hbv
  cases hkeep : kl.getD k false with
  | false =>
    rw [hkeep] at hkc HLS
    have HE : Hid (liveR safe pend kl (k + 1) = liveR safe pend kl k) := (show _ = _ by rw [HLS.out]; rfl)
    clear HLS hkeep
    go_wp2
    go_roundw
    case rel => exact ⟨k + 1, by omega, by go_num, (show Row _ _ _ _ by rw [HE.out]; exact LG.out), L0, L1, LB⟩
    case measure => simp [intOf]; omega
  | true =>
    rw [hkeep] at hkc HLS
    have HE : Hid (liveR safe pend kl (k + 1) = (liveR safe pend kl k).set q pb) := (show _ = _ by rw [HLS.out]; rfl)
    have hl64 : ∀ b ∈ liveR safe pend kl k, b.length = 64 := liveR_64 (keep := kl) HS64.out (fun p hp => (HGD.out.inr p hp).2.2) k (by have := HPL.out; show k ≤ pend.length; omega)
    have hln : (liveR safe pend kl k).length = n := by rw [liveR_len, HSL.out]
    have HSP : Hid (splice (bv (liveR safe pend kl k).flatten ++ rest) (q * 64) (bv pb) = bv (liveR safe pend kl (k + 1)).flatten ++ rest) := (show _ = _ by
      rw [splice_more (bv (liveR safe pend kl k).flatten) rest (bv pb) (q * 64) (by rw [bv_length, bv_length, flat_len _ hl64, H65.out]; omega), flat_set _ _ _ hl64 H65.out (by omega), HE.out])
    have HFT : Hid (q * 64 + (bv pb).length ≤ (bv (liveR safe pend kl k).flatten ++ rest).length) := (show _ ≤ _ by
      rw [List.length_append, bv_length, bv_length, flat_len _ hl64, H65.out]; omega)
    have hqi : (q : Int) < (n : Int) := by omega
    clear HLS hkeep HE hl64 hln
    go_wp2_with (first
      | (with_reducible refine wpList_load_blk (op := ⟨some 34, _, _, _, _, _⟩) ?_ 39 (.tmp 33) ?_ wr.heap.size 1 ?_ pb _ HR5.out Try.underlying39 ?_ ?_ ?_)
      | (with_reducible refine wpList_store_in (op := ⟨none, _, _, _, _, _⟩) ?_ 39 (.tmp 35) (.tmp 34) ?_ gs (q * 64) (bv pb) ?_ ?_ 39 (bv (liveR safe pend kl k).flatten ++ rest) ?_ HFT.out bv_one ?_ ?_))
    all_goals try (first | rfl | exact LG.out | (rw [H65.out]; exact size39) | (rw [bv_length, H65.out]; exact size39))
    intro w6 hr hgr
    rw [HSP.out] at hr
    have M0 := Lib.hid (L0.out.grown hgr (by simp; omega))
    have M1 := Lib.hid (L1.out.grown hgr (by simp; omega))
    have MB := Lib.hid (LB.out.grown hgr LB.out.size (fun j hj => by simp at hj; omega))
    have MG := Lib.hid hr
    clear hr hgr L0 L1 LB LG
    go_wp2
    go_roundw
    case rel => exact ⟨k + 1, by omega, by go_num, MG, M0, M1, MB⟩
    case measure => simp [intOf]; omega
end Go.Proofs.Ytbfpadilcfelbaa.Dsk
