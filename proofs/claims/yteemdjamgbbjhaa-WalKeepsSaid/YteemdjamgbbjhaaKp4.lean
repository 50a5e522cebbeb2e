/-
  Part 4 of the contracts that the law rests on.
-/
import Derived.Scope
import Derived.Deep.LoopGhost
import Derived.Test.YteemdjamgbbjhaaKp3
/-
  A head in a sector.
-/
namespace Go.Proofs.Yteemdjamgbbjhaa.Wl
set_option maxRecDepth 100000
open Go.RowKit Go.Shelf Go.Proofs.Yteemdjamgbbjhaa.Wd Go.Proofs.Yteemdjamgbbjhaa.Dsk Go.Proofs.Yteemdjamgbbjhaa.Oct Go.Proofs.Yteemdjamgbbjhaa.Sum

def headT (s : List UInt8) : Nat := num ((s.drop 8).take 4)
def headA (s : List UInt8) : Nat := num ((s.drop 12).take 4)
theorem num4_lt (l : List UInt8) : num (l.take 4) < 4294967296 := by
  have h1 := num_lt (l.take 4)
  have h2 : (l.take 4).length ≤ 4 := by rw [List.length_take]; omega
  have h3 : 256 ^ (l.take 4).length ≤ 256 ^ 4 := Nat.pow_le_pow_right (by omega) h2
  omega
theorem fits_any (t a n : Nat) (w : World) (ht : t < 4294967296) (ha : a < 4294967296) (hn : n ≤ 100000) :
    Calls Try.prog 82 #[.agg (hcs t a).toArray, .int .i64 (n : Int)] w fun e w' => e = .returned (.bool (decide (4 ≤ a ∧ a ≤ 1000 ∧ 2 + 2 * a ≤ n))) ∧ Below w.heap.size w w' := by
  have k1 : (hcs t a)[1]? = some (.int .u32 (a : Int)) := rfl
  by_cases h4 : 4 ≤ a
  · by_cases h1 : a ≤ 1000
    · have g1 : (4 : Int) ≤ (a : Int) := by omega
      have g2 : (a : Int) ≤ 1000 := by omega
      have HN := Lib.hid fun u => needed_any a u h1
      go_enter Try.func82, Try.ntmps82
      go_wp2_with fail
      refine (HN.out _).mono ?_
      rintro e w2 ⟨rfl, hx⟩
      subst hx
      go_wp2
      go_ret
      exact ⟨ret_bool (by simp only [decide_eq_decide]; omega), (Below.refl _ _).alloc (Nat.le_refl _) _⟩
    · have g1 : (4 : Int) ≤ (a : Int) := by omega
      have g2 : ¬ (a : Int) ≤ 1000 := by omega
      go_enter Try.func82, Try.ntmps82
      go_wp2
      go_ret
      exact ⟨rfl, (Below.refl _ _).alloc (Nat.le_refl _) _⟩
  · have g1 : ¬ (4 : Int) ≤ (a : Int) := by omega
    go_enter Try.func82, Try.ntmps82
    go_wp2
    go_ret
    exact ⟨rfl, (Below.refl _ _).alloc (Nat.le_refl _) _⟩
set_option maxHeartbeats 4000000 in
theorem headIn_any (s : List UInt8) (w : World) (hs : s.length = 64) :
    Calls Try.prog 81 #[.agg (bv s).toArray] w fun e w' => e = .returned (.tuple #[.agg (hcs (headT s) (headA s)).toArray, .bool (decide (headB (headT s) (headA s) = s))]) ∧ Below w.heap.size w w' := by
  have mixed : Try.prog.follows .mixedOrders = true := by kernel_rfl
  have HL := Lib.hid hs
  clear hs
  go_enter Try.func81, Try.ntmps81
  go_wp2_with fail
  refine (fun (h : ∀ w1, (w.alloc (.cells (bv s).toArray 89)).alloc (.cells #[.int .u32 0, .int .u32 0] 106) = w1 → Calls _ _ _ w1 _) => h _ rfl) fun w1 hw1 => ?_
  have hb1 : Below w.heap.size w w1 := by rw [← hw1]; exact ((Below.refl _ _).alloc (Nat.le_refl _) _).alloc (by simp) _
  have r1 : Row w1 w.heap.size 89 (bv s) := by rw [← hw1]; exact (Row.new w _ _).alloc _
  have r2 : Row w1 (w.heap.size + 1) 106 [.int .u32 0, .int .u32 0] := by
    rw [← hw1]
    have := Row.new (w.alloc (.cells (bv s).toArray 89)) 106 [.int .u32 0, .int .u32 0]
    rw [World.size_alloc] at this
    exact this
  have hbs : Bs w1 w1.heap.size (some ⟨w.heap.size, 8, none⟩) ((s.drop 8).take 56) := (Row.bs r1 r1.lt).cut 8 56 (by rw [HL.out]; omega)
  have R1 := Lib.hid r1
  have R2 := Lib.hid r2
  have HB1 := Lib.hid hb1
  clear hw1 hb1 r1 r2
  obtain ⟨l, hl⟩ : ∃ l, (s.drop 8).take 56 = l := ⟨_, rfl⟩
  have hll : l.length = 56 := by rw [← hl, List.length_take, List.length_drop, HL.out]; rfl
  have hT : num (Oct.step l 0 0 4).1 = headT s := by
    unfold Oct.step headT
    rw [if_neg (by simp), if_neg (by omega), if_neg (by omega), ← hl]
    simp [List.take_take]
  have hst : Oct.step l 0 0 4 = (l.take 4, 4, 0) := by
    unfold Oct.step
    rw [if_neg (by simp), if_neg (by omega), if_neg (by omega)]
    simp
  have hA : num (Oct.step l 4 0 4).1 = headA s := by
    unfold Oct.step headA
    rw [if_neg (by simp), if_neg (by omega), if_neg (by omega), ← hl]
    simp [List.drop_take, List.drop_drop, List.take_take]
  rw [hl] at hbs
  have HT := Lib.hid hT
  have HA := Lib.hid hA
  have HST := Lib.hid hst
  have HLL := Lib.hid hll
  clear hl hT hA hst hll
  refine (Oct.read_any (some ⟨w.heap.size, 8, none⟩) l 56 56 w1 HLL.out (by omega) _ hbs (fun e => by cases e)).mono ?_
  rintro e w2 ⟨g2, rfl, hg2, hrd, hb2⟩
  have R12 := Lib.hid (R1.out.below hb2 R1.out.lt)
  have R22 := Lib.hid (R2.out.below hb2 R2.out.lt)
  have HB2 := Lib.hid (HB1.out.trans (hb2.mono HB1.out.size))
  have HG2 : Hid (w.heap.size + 1 < g2 ∧ w.heap.size < g2) := Lib.hid ⟨Nat.lt_of_lt_of_le R2.out.lt hg2, Nat.lt_of_lt_of_le R1.out.lt hg2⟩
  have HRD := Lib.hid hrd
  clear hb2 hg2 hrd hbs
  go_wp2_with fail
  refine (u32_any g2 l 0 0 w2 HRD.out).mono ?_
  rintro e w3 ⟨rfl, hrd, hg3⟩
  rw [HT.out]
  rw [HST.out] at hrd
  have R13 := Lib.hid (R12.out.grown hg3 (fun e => by have := HG2.out.2; have := Option.some.inj e; omega))
  have R23 := Lib.hid (R22.out.grown hg3 (fun e => by have := HG2.out.1; have := Option.some.inj e; omega))
  have HB3 := Lib.hid (HB2.out.grown hg3 HB2.out.size (fun j hj => by have := HG2.out.2; have := Option.some.inj hj; omega))
  have HRD3 := Lib.hid hrd
  clear hg3 hrd
  go_wp2_with fail
  refine (u32_any g2 l 4 0 w3 HRD3.out).mono ?_
  rintro e w4 ⟨rfl, _, hg4⟩
  rw [HA.out]
  have R14 := Lib.hid (R13.out.grown hg4 (fun e => by have := HG2.out.2; have := Option.some.inj e; omega))
  have R24 := Lib.hid (R23.out.grown hg4 (fun e => by have := HG2.out.1; have := Option.some.inj e; omega))
  have HB4 := Lib.hid (HB3.out.grown hg4 HB3.out.size (fun j hj => by have := HG2.out.2; have := Option.some.inj hj; omega))
  clear hg4
  have ht : headT s < 4294967296 := num4_lt _
  have ha : headA s < 4294967296 := num4_lt _
  obtain ⟨t, hte⟩ : ∃ t, headT s = t := ⟨_, rfl⟩
  obtain ⟨a, hae⟩ : ∃ a, headA s = a := ⟨_, rfl⟩
  rw [hte] at ht ⊢
  rw [hae] at ha ⊢
  clear HT HA HST
  have HLH := Lib.hid (show (hcs t a).length = ([.int .u32 0, .int .u32 0] : List Value).length from rfl)
  have HIH := Lib.hid (show (Try.prog.info? 106).map (·.size) = some (hcs t a).length from size106)
  have HIB : Hid ((Try.prog.info? 89).map (·.size) = some (bv s).length) := (show _ = _ by rw [bv_length, HL.out]; exact size39)
  go_wp2_with (first
    | (with_reducible refine wpList_store_whole (op := ⟨none, _, _, _, _, _⟩) ?_ 106 (.tmp 5) (.tmp 12) ?_ w4.heap.size (hcs t a) ?_ ?_ 106 [.int .u32 0, .int .u32 0] ?hrow HLH.out (hcs_one _ _) HIH.out ?_))
  case hrow => exact Row.new w4 _ [.int .u32 0, .int .u32 0]
  all_goals try (first | rfl | (simp; done))
  intro w5 hr5 hg5
  have hb5 : Below w4.heap.size w4 w5 := ((Below.refl _ _).alloc (Nat.le_refl _) _).grown hg5 (by simp) (fun k hk => by cases hk; exact Nat.le_refl _)
  obtain ⟨b5, hb5e⟩ : ∃ b5, w4.heap.size = b5 := ⟨_, rfl⟩
  rw [hb5e] at hr5
  have R55 := Lib.hid hr5
  have HB5E : Hid (w.heap.size + 1 < b5) := Lib.hid (by rw [← hb5e]; exact R24.out.lt)
  have R15 := Lib.hid (R14.out.below hb5 R14.out.lt)
  have R25 := Lib.hid (R24.out.below hb5 R24.out.lt)
  have HB5 := Lib.hid (HB4.out.trans (hb5.mono HB4.out.size))
  clear hr5 hg5 hb5
  go_wp2_with fail
  rw [hb5e]
  clear hb5e
  refine wp_region_held_drew (S := (fun w' => Row w' b5 106 (hcs t a) ∧ Row w' w.heap.size 89 (bv s))) (by kernel_rfl) ⟨R55.out, R15.out⟩ (fun hHeld => ?_)
  refine wpAnyH_take (i := 0) (oi := ⟨some 13, _, _, _, _, _⟩) rfl (by kernel_rfl) (by kernel_rfl) (by kernel_rfl) (fun _ _ _ h => h) (yieldsIf_load_mid (by rfl) 106 (.tmp 5) rfl b5 0 ?x0 (hcs t a) _ (fun _ hS => Row.all hS.1) Try.underlying106 rfl HIH.out) hHeld ?r0
  case x0 => first | rfl | (simp [Act.eval, go_sem]; done)
  try simp only [Act.put, List.setIfInBounds_toArray, List.set_cons_zero, List.set_cons_succ]
  refine wpAnyH_take (i := 1) (oi := ⟨some 14, _, _, _, _, _⟩) rfl (by kernel_rfl) (by kernel_rfl) (by kernel_rfl) (fun _ _ _ h => h) (yieldsIf_load_mid (by rfl) 106 (.tmp 5) rfl b5 0 ?x1 (hcs t a) _ (fun _ hS => Row.all hS.1) Try.underlying106 rfl HIH.out) hHeld ?r1
  case x1 => first | rfl | (simp [Act.eval, go_sem]; done)
  try simp only [Act.put, List.setIfInBounds_toArray, List.set_cons_zero, List.set_cons_succ]
  refine wpAnyH_take (i := 3) (oi := ⟨some 16, _, _, _, _, _⟩) rfl (by kernel_rfl) (by kernel_rfl) (by kernel_rfl) (fun _ _ _ h => h) (yieldsIf_load_mid (by rfl) 89 (.tmp 1) rfl w.heap.size 0 ?x3 (bv s) _ (fun _ hS => Row.all hS.2) Try.underlying89 rfl HIB.out) hHeld ?r3
  case x3 => first | rfl | (simp [Act.eval, go_sem]; done)
  try simp only [Act.put, List.setIfInBounds_toArray, List.set_cons_zero, List.set_cons_succ]
  refine wpAnyH_ready (rs := [2]) (by kernel_rfl) (by simp) ?_
  refine AllReadyH.cons rfl (fun K hK => ?_) AllReadyH.nil
  go_simp
  refine (sector_any t a w5.drew ht ha).mono ?_
  rintro e w6 ⟨rfl, hb6⟩
  replace hb6 : Below w5.heap.size w5 w6 := undrew hb6
  have R56 := Lib.hid (R55.out.below hb6 R55.out.lt)
  have R16 := Lib.hid (R15.out.below hb6 R15.out.lt)
  have R26 := Lib.hid (R25.out.below hb6 R25.out.lt)
  have HB6 := Lib.hid (HB5.out.trans (hb6.mono HB5.out.size))
  clear hb6
  refine hK _ _ ⟨R56.out, R16.out⟩ (fun _ => ?_)
  clear hK K
  try simp only [Act.put, List.setIfInBounds_toArray, List.set_cons_zero, List.set_cons_succ]
  refine wpAnyH_take (i := 4) (oi := ⟨some 17, _, _, _, _, _⟩) (v := ?v4) rfl (by kernel_rfl) (by kernel_rfl) (by kernel_rfl) (fun _ _ _ h => h) (Or.inl ⟨by rfl, ?y4⟩) ⟨R56.out, R16.out⟩ ?r4
  case y4 =>
    rintro w' ⟨_, _⟩
    have hq := run_equal_blk w' (headB t a) s (headB_len _ _) HL.out
    unfold blk at hq ⊢
    go_simp
    try with_reducible rfl
  try simp only [Act.put, List.setIfInBounds_toArray, List.set_cons_zero, List.set_cons_succ]
  refine wpAnyH_ready (rs := [5]) (by kernel_rfl) (by simp) ?_
  refine AllReadyH.cons rfl (fun K hK => ?_) AllReadyH.nil
  rw [if_pos (by rfl)]
  refine wp_store_whole 106 (.tmp 2) (.tmp 13) rfl (w.heap.size + 1) (hcs t a) rfl rfl 106 [.int .u32 0, .int .u32 0] R26.out HLH.out (hcs_one _ _) HIH.out ?_
  intro w7 hr7 hg7
  have hne1 : b5 ≠ w.heap.size + 1 := fun e => by have h1 := R56.out; have h2 := HB5E.out; omega
  have R57 := Lib.hid (R56.out.grown hg7 (fun e => hne1 (Option.some.inj e)))
  have R17 := Lib.hid (R16.out.grown hg7 (fun e => by have := Option.some.inj e; omega))
  have HB7 := Lib.hid (HB6.out.grown hg7 HB6.out.size (fun j hj => by have := Option.some.inj hj; omega))
  have HRES := Lib.hid (run_loadVar_mid (P := Try.prog) w7 (w.heap.size + 1) 0 106 (hcs t a) _ (Row.all hr7) Try.underlying106 rfl HIH.out)
  clear hr7 hg7 hne1
  refine hK _ _ ⟨R57.out, R17.out⟩ (fun _ => ?_)
  clear hK K
  try simp only [Act.put, List.setIfInBounds_toArray, List.set_cons_zero, List.set_cons_succ]
  refine wpAnyH_take (i := 6) (oi := ⟨some 3, _, _, _, _, _⟩) (v := ?v6) rfl (by kernel_rfl) (by kernel_rfl) (by kernel_rfl) (fun _ _ _ h => h) (Or.inl ⟨by rfl, ?y6⟩) ⟨R57.out, R17.out⟩ ?r6
  case y6 =>
    rintro w' ⟨_, _⟩
    go_simp
    try with_reducible rfl
  try simp only [Act.put, List.setIfInBounds_toArray, List.set_cons_zero, List.set_cons_succ]
  refine wpAnyH_done (by kernel_rfl) ?_ _
  go_wp2
  exact bodyPost_ret (v := .tuple #[.agg (hcs t a).toArray, .bool (decide (headB t a = s))]) (Dsk.results_cell_tmp (p := 2) (q := 3) (ty := 106) rfl _ _ ⟨w.heap.size + 1, 0, none⟩ _ _ rfl HRES.out rfl) rfl ⟨rfl, HB7.out⟩
end Go.Proofs.Yteemdjamgbbjhaa.Wl

/-
  The head that counts.
-/
namespace Go.Proofs.Yteemdjamgbbjhaa.Wl
set_option maxRecDepth 100000
open Go.RowKit Go.Shelf Go.Proofs.Yteemdjamgbbjhaa.Wd Go.Proofs.Yteemdjamgbbjhaa.Dsk Go.Proofs.Yteemdjamgbbjhaa.Oct Go.Proofs.Yteemdjamgbbjhaa.Sum

/-- is the head in a sector right? -/
def rightH (s : List UInt8) (i n : Nat) : Bool := decide (headB (headT s) (headA s) = s) && (decide (headT s % 2 = i) && decide (4 ≤ headA s ∧ headA s ≤ 1000 ∧ 2 + 2 * headA s ≤ n))
/-- one sector more is looked at -/
def stepH (s : List UInt8) (i n : Nat) (m : Option (Nat × Nat)) : Option (Nat × Nat) :=
  if rightH s i n = true ∧ (m = none ∨ (m.getD (0, 0)).1 < headT s) then some (headT s, headA s) else m
def headsH (L : List (List UInt8)) (n : Nat) : Nat → Option (Nat × Nat)
  | 0 => none
  | k + 1 => stepH (L.getD k nought) k n (headsH L n k)
def mostV (m : Option (Nat × Nat)) : List Value := hcs (m.getD (0, 0)).1 (m.getD (0, 0)).2
theorem head_lt (L : List (List UInt8)) (n k : Nat) : ((headsH L n k).getD (0, 0)).1 < 4294967296 ∧ ((headsH L n k).getD (0, 0)).2 < 4294967296 := by
  induction k with
  | zero => exact ⟨by simp [headsH], by simp [headsH]⟩
  | succ k ih =>
    simp only [headsH, stepH]
    split
    · exact ⟨num4_lt _, num4_lt _⟩
    · exact ih
/-- what the head that counts is answered as -/
def headsOut (L : List (List UInt8)) (n : Nat) : Value := match headsH L n 2 with
  | some m => .tuple #[.agg (hcs m.1 m.2).toArray, .int .i64 0]
  | none => .tuple #[.agg (hcs 0 0).toArray, .int .i64 140]
def Hd (w w' : World) (F : Nat → Prop) (dg : Nat) (d : DM) (e : Ending) : Prop :=
  ∃ F', Dk w' F' dg (rdM (idxs 0 2) d).1 ∧ Ext F F' w w' ∧ Off F w w' ∧
    e = .returned (if (rdM (idxs 0 2) d).2.2 = 0 then headsOut (rdM (idxs 0 2) d).2.1 d.sec.length else .tuple #[.agg (hcs 0 0).toArray, .int .i64 (rdM (idxs 0 2) d).2.2])
theorem rdM_sec (is : List Int) : ∀ d : DM, (rdM is d).1.sec = d.sec := by
  have h1 : ∀ (d : DM) (i : Int), (d.readM i).1.sec = d.sec := fun d i => by
    unfold DM.readM
    split
    · exact pre_sec d i false
    · exact pre_sec d i false
  induction is with
  | nil => intro d; rfl
  | cons j is ih =>
    intro d
    show (if _ then _ else _ : DM × List (List UInt8) × Int).1.sec = _
    split
    · exact h1 d j
    · exact (ih _).trans (h1 d j)
set_option maxHeartbeats 8000000 in
theorem heads_any (dg : Nat) (d : DM) (F : Nat → Prop) (w : World) (hd : Dk w F dg d) :
    Calls Try.prog 60 #[.pointer (some ⟨dg, 0, none⟩)] w (fun e w' => Hd w w' F dg d e) := by
  have mixed : Try.prog.follows .mixedOrders = true := by kernel_rfl
  have HD := Lib.hid hd
  clear hd
  go_enter Try.func60, Try.ntmps60
  go_wp2_with fail
  have hb1 : Below w.heap.size w (w.alloc (.cells #[.int .u32 0, .int .u32 0] 106)) := (Below.refl _ _).alloc (Nat.le_refl _) _
  have r1 : Row (w.alloc (.cells #[.int .u32 0, .int .u32 0] 106)) w.heap.size 106 [.int .u32 0, .int .u32 0] := Row.new w _ _
  generalize w.alloc (.cells #[.int .u32 0, .int .u32 0] 106) = w1 at hb1 r1 ⊢
  refine (rd_any dg 0 2 d F w1 (HD.out.below hb1) (by omega) (by omega)).mono ?_
  rintro e w2 ⟨v, F2, rfl, hd2, hx2, ho2, hok⟩
  have hn1 : ¬ F w.heap.size := fun h => by have := HD.out.1.2 _ h; omega
  have R2 : Hid (Row w2 w.heap.size 106 [.int .u32 0, .int .u32 0]) := ((ho2.block _ r1.lt hn1).trans r1)
  have HO2 : Hid (Off F w w2) := Lib.hid ((Off.of_below hb1).trans (Ext.refl _ _ _) ho2)
  have HX2 : Hid (Ext F F2 w w2) := Lib.hid fun k hk => by
    rcases hx2 k hk with h | h
    · exact .inl h
    · exact .inr ⟨Nat.le_trans hb1.size h.1, h.2⟩
  have HD2 := Lib.hid hd2
  have HOK := Lib.hid hok
  have HS1 := Lib.hid hb1.size
  have HL1 := Lib.hid r1.lt
  have hsec := rdM_sec (idxs 0 2) d
  obtain ⟨d2, hd2e⟩ : ∃ d2, (rdM (idxs 0 2) d).1 = d2 := ⟨_, rfl⟩
  obtain ⟨L, hL⟩ : ∃ L, (rdM (idxs 0 2) d).2.1 = L := ⟨_, rfl⟩
  obtain ⟨er, her⟩ : ∃ er, (rdM (idxs 0 2) d).2.2 = er := ⟨_, rfl⟩
  rw [hd2e] at HD2 hsec
  rw [hL, her] at HOK
  rw [her]
  have HE := Lib.hid (show rdM (idxs 0 2) d = (d2, L, er) by rw [← hd2e, ← hL, ← her])
  have HSEC := Lib.hid hsec
  clear hd2 hx2 ho2 hok hb1 r1 hn1 hd2e hL her hsec
  by_cases h0 : er = 0
  · subst h0
    obtain ⟨gs, rfl, hgs, hgF, hrow, hLl, hL64⟩ := HOK.out rfl
    have HR := Lib.hid hrow
    have HL := Lib.hid hLl
    have HL64 := Lib.hid hL64
    have HGF := Lib.hid hgF
    have HGS := Lib.hid hgs
    clear HOK hrow hLl hL64 hgF hgs
    go_wp2_with fail
    refine nw fun w3 hw3 => ?_
    have hb3 : Below w2.heap.size w2 w3 := by rw [← hw3]; exact (Below.refl _ _).alloc (Nat.le_refl _) _
    have r73 : Row w3 w2.heap.size 106 (mostV none) := by rw [← hw3]; exact Row.new w2 _ _
    clear hw3
    obtain ⟨b7, hb7⟩ : ∃ b7, w2.heap.size = b7 := ⟨_, rfl⟩
    have hb7w : w.heap.size < b7 := by rw [← hb7]; exact R2.out.lt
    rw [hb7] at r73 ⊢
    obtain ⟨n, hn⟩ : ∃ n, d.sec.length = n := ⟨_, rfl⟩
    have hn2 : n ≤ 100000 := by rw [← hn]; have := (Disk.good HD.out.1).most; omega
    have HNN := Lib.hid hn
    have HB7 := Lib.hid hb7w
    have hI0 : Row w3 b7 106 (mostV (headsH L n 0)) ∧ Row w3 w.heap.size 106 [.int .u32 0, .int .u32 0] ∧ Row w3 gs 89 (bv L.flatten) ∧ Dk w3 F2 dg d2 ∧ Off F w w3 := ⟨r73, R2.out.below hb3 R2.out.lt, HR.out.below hb3 HR.out.lt, HD2.out.below hb3, HO2.out.grown (below_grown hb3) (by intro r e; cases e)⟩
    clear r73 hb3 hb7 hb7w hn
    go_loopw [6, 24] (fun fnd i wr => ∃ k : Nat, k ≤ 2 ∧ i = .int .i64 (k : Int) ∧ fnd = .bool (headsH L n k).isSome ∧ Hid (Row wr b7 106 (mostV (headsH L n k)) ∧ Row wr w.heap.size 106 [.int .u32 0, .int .u32 0] ∧ Row wr gs 89 (bv L.flatten) ∧ Dk wr F2 dg d2 ∧ Off F w wr)) (fun _ i _ => 2 - (intOf i).toNat)
    case atStart => exact ⟨0, by omega, rfl, rfl, hI0⟩
    case round =>
      obtain ⟨k, hk, rfl, rfl, HI⟩ := hrel
      clear hI0
      by_cases hlt : k < 2
      · have h1 : (k : Int) < 2 := by omega
        obtain ⟨x, hx⟩ : ∃ x, L.getD k nought = x := ⟨_, rfl⟩
        have hx64 : x.length = 64 := by
          rw [← hx, List.getD_eq_getElem?_getD, List.getElem?_eq_getElem (by rw [HL.out]; exact hlt)]
          exact HL64.out _ (List.getElem_mem _)
        have hflat : ∀ wz : World, Row wz gs 89 (bv L.flatten) → wz.rangeAt gs (k * 64) (bv x) := fun wz hz => by
          refine Row.range hz fun j v hj => ?_
          have hj2 : j < 64 := by simpa [bv_length, hx64] using (List.getElem?_eq_some_iff.1 hj).1
          have hsp : L = L.take k ++ x :: L.drop (k + 1) := by
            rw [← hx, List.getD_eq_getElem?_getD, List.getElem?_eq_getElem (by rw [HL.out]; exact hlt)]
            simp
          have hfl : (L.take k).flatten.length = k * 64 := by
            rw [flat_len _ (fun b hb => HL64.out b (List.mem_of_mem_take hb)), List.length_take, HL.out, Nat.min_eq_left (by omega)]
          rw [hsp, List.flatten_append, List.flatten_cons, bv_append, bv_append, List.getElem?_append_right (by rw [bv_length, hfl]; omega), bv_length, hfl, Nat.add_sub_cancel_left, List.getElem?_append_left (by rw [bv_length, hx64]; exact hj2)]
          exact hj
        have HFL := Lib.hid (hflat wr HI.out.2.2.1)
        have HX64 := Lib.hid hx64
        have HXE := Lib.hid hx
        have HIX : Hid ((Try.prog.info? 89).map (·.size) = some (bv x).length) := (show _ = _ by rw [bv_length, hx64]; exact size39)
        have HLX : Hid ((bv x).length = (bv nought).length) := (show _ = _ by rw [bv_length, bv_length, hx64]; rfl)
        clear hflat hx64 hx
        go_wp2_with (first
          | (with_reducible refine wpList_load_row (op := ⟨some 28, _, _, _, _, _⟩) ?_ 89 (.tmp 27) ?_ gs (k * 64) ?_ (bv x) _ HFL.out Try.underlying89 ?_ HIX.out ?_)
          | (with_reducible refine wpList_store_whole (op := ⟨none, _, _, _, _, _⟩) ?_ 89 (.tmp 9) (.tmp 28) ?_ wr.heap.size (bv x) ?_ ?_ 89 (bv nought) ?hrow2 HLX.out bv_one HIX.out ?_))
        case hrow2 => exact Row.new wr _ (bv nought)
        all_goals try (first | rfl | (simp; done))
        intro w4 hr4 hg4
        have hb4 : Below wr.heap.size wr w4 := ((Below.refl _ _).alloc (Nat.le_refl _) _).grown hg4 (by simp) (fun k hk => by cases hk; exact Nat.le_refl _)
        have HR4 := Lib.hid hr4
        have HB4 := Lib.hid hb4
        clear hr4 hg4 hb4
        go_wp2_with (first
          | (with_reducible refine wpList_load_row (op := ⟨some 30, _, _, _, _, _⟩) ?_ 89 (.tmp 9) ?_ wr.heap.size 0 ?_ (bv x) _ (Row.all HR4.out) Try.underlying89 ?_ HIX.out ?_))
        all_goals try (first | rfl | (simp; done))
        go_wp2_with fail
        refine (headIn_any x w4 HX64.out).mono ?_
        rintro e w5 ⟨rfl, hb5⟩
        have hT := num4_lt (x.drop 8)
        have hA := num4_lt (x.drop 12)
        have HB5 := Lib.hid (HB4.out.trans (hb5.mono HB4.out.size))
        obtain ⟨T, hTe⟩ : ∃ T, headT x = T := ⟨_, rfl⟩
        obtain ⟨A, hAe⟩ : ∃ A, headA x = A := ⟨_, rfl⟩
        have hT2 : T < 4294967296 := by rw [← hTe]; exact hT
        have hA2 : A < 4294967296 := by rw [← hAe]; exact hA
        rw [hTe, hAe]
        obtain ⟨ok, hoke⟩ : ∃ ok, decide (headB T A = x) = ok := ⟨_, rfl⟩
        rw [hoke]
        have HOKE : Hid (decide (headB (headT x) (headA x) = x) = ok) := Lib.hid (by rw [hTe, hAe]; exact hoke)
        have HTE := Lib.hid hTe
        have HAE := Lib.hid hAe
        clear hb5 hT hA hTe hAe hoke
        have HLH := Lib.hid (show (hcs T A).length = ([.int .u32 0, .int .u32 0] : List Value).length from rfl)
        have HIH := Lib.hid (show (Try.prog.info? 106).map (·.size) = some (hcs T A).length from size106)
        go_wp2_with (first
          | (with_reducible refine wpList_store_whole (op := ⟨none, _, _, _, _, _⟩) ?_ 106 (.tmp 10) (.tmp 32) ?_ w5.heap.size (hcs T A) ?_ ?_ 106 [.int .u32 0, .int .u32 0] ?hrow3 HLH.out (hcs_one _ _) HIH.out ?_))
        case hrow3 => exact Row.new w5 _ [.int .u32 0, .int .u32 0]
        all_goals try (first | rfl | (simp; done))
        intro w6 hr6 hg6
        have hb6 : Below w5.heap.size w5 w6 := ((Below.refl _ _).alloc (Nat.le_refl _) _).grown hg6 (by simp) (fun k hk => by cases hk; exact Nat.le_refl _)
        obtain ⟨b10, hb10⟩ : ∃ b10, w5.heap.size = b10 := ⟨_, rfl⟩
        have HB10 : Hid (wr.heap.size ≤ b10) := Lib.hid (by rw [← hb10]; exact HB5.out.size)
        rw [hb10] at hr6
        have R106 := Lib.hid hr6
        have HB6 := Lib.hid (HB5.out.trans (hb6.mono HB5.out.size))
        clear hr6 hg6 hb6
        go_wp2_with fail
        rw [hb10]
        clear hb10
        rename_i K10 hK10
        have HK10 := Lib.hid hK10
        clear hK10
        have fin : ∀ (rt : Bool) (W : World) (v34 v35 v36 v37 v38 v39 v40 v41 v42 v43 v44 v45 v46 : Value), rt = rightH x k n → Below wr.heap.size wr W → Row W b10 106 (hcs T A) → K10 { tmps := #[.pointer (some ⟨dg, 0, none⟩), undef, .pointer (some ⟨w.heap.size, 0, none⟩), .int .i64 0, .slice (some ⟨gs, 0, none⟩) 2 2, .int .i64 0, .bool (headsH L n k).isSome, .pointer (some ⟨b7, 0, none⟩), .int .i64 (k : Int), .pointer (some ⟨wr.heap.size, 0, none⟩), .pointer (some ⟨b10, 0, none⟩), .bool ok, .bool rt, .tuple #[.slice (some ⟨gs, 0, none⟩) 2 2, .int .i64 0], .pointer (some ⟨dg, 0, none⟩), .tuple #[.slice (some ⟨gs, 0, none⟩) 2 2, .int .i64 0], .slice (some ⟨gs, 0, none⟩) 2 2, .int .i64 0, .int .i64 0, .bool false, undef, undef, .slice (some ⟨gs, 0, none⟩) 2 2, .int .i64 2, .int .i64 (k : Int), .bool true, .int .i64 (k : Int), .pointer (some ⟨gs, k * 64, none⟩), .agg (bv x).toArray, .tuple #[.agg (hcs T A).toArray, .bool ok], .agg (bv x).toArray, .tuple #[.agg (hcs T A).toArray, .bool ok], .agg (hcs T A).toArray, .bool ok, v34, v35, v36, v37, v38, v39, v40, v41, v42, v43, v44, v45, v46, u47, u48, u49, u50, u51, u52, u53, u54, u55, u56, u57, u58, u59, u60, undef, undef, undef, undef], defers := [] } W := by
          intro rt W v34 v35 v36 v37 v38 v39 v40 v41 v42 v43 v44 v45 v46 hrt hbw hrw
          have RW := Lib.hid hrw
          have RB7 := Lib.hid (HI.out.1.below hbw HI.out.1.lt)
          have RRES := Lib.hid (HI.out.2.1.below hbw HI.out.2.1.lt)
          have RGS := Lib.hid (HI.out.2.2.1.below hbw HI.out.2.2.1.lt)
          have RDK := Lib.hid (HI.out.2.2.2.1.below hbw)
          have ROF := Lib.hid (HI.out.2.2.2.2.grown (below_grown hbw) (by intro r e; cases e))
          have HNE : Hid (b7 < b10) := Lib.hid (Nat.lt_of_lt_of_le HI.out.1.lt HB10.out)
          have hnx : headsH L n (k + 1) = stepH x k n (headsH L n k) := by rw [headsH, HXE.out]
          have e10 : W.cell? ⟨b10, 0, none⟩ = some (.int .u32 (T : Int)) := hrw.cell 0
          have e7 : W.cell? ⟨b7, 0, none⟩ = some (.int .u32 (((headsH L n k).getD (0, 0)).1 : Int)) := RB7.out.cell 0
          clear hbw hrw
          refine HK10.out _ _ ?_
          cases rt with
          | false =>
            have hs : stepH x k n (headsH L n k) = headsH L n k := by
              unfold stepH
              rw [if_neg (by rw [← hrt]; simp)]
            rw [hs] at hnx
            have HREL : Hid (Row W b7 106 (mostV (headsH L n (k + 1))) ∧ Row W w.heap.size 106 [.int .u32 0, .int .u32 0] ∧ Row W gs 89 (bv L.flatten) ∧ Dk W F2 dg d2 ∧ Off F w W) := Lib.hid ⟨by rw [hnx]; exact RB7.out, RRES.out, RGS.out, RDK.out, ROF.out⟩
            have HNX := Lib.hid hnx
            clear hnx hs e10 e7 hrt
            go_wp2
            go_roundw
            case rel => exact ⟨k + 1, by omega, by go_num, by rw [HNX.out], HREL⟩
            case measure => simp [intOf]; omega
          | true =>
            cases hm : headsH L n k with
            | none =>
              have hs : stepH x k n (headsH L n k) = some (T, A) := by
                unfold stepH
                rw [if_pos ⟨hrt.symm, .inl hm⟩, HTE.out, HAE.out]
              rw [hs] at hnx
              have HNX := Lib.hid hnx
              have HMM := Lib.hid hm
              rw [hm] at e7
              clear hnx hs hrt e10 e7 hm
              simp only [Option.isSome_none]
              go_wp2_with fail
              refine wp_region_held_drew (S := (fun w' => Row w' b10 106 (hcs T A))) (by kernel_rfl) RW.out (fun hHeld3 => ?_)
              refine wpAnyH_take (i := 0) (oi := ⟨some 59, _, _, _, _, _⟩) rfl (by kernel_rfl) (by kernel_rfl) (by kernel_rfl) (fun _ _ _ h => h) (yieldsIf_load_mid (by rfl) 106 (.tmp 10) rfl b10 0 ?x0m (hcs T A) _ (fun _ hS => Row.all hS) Try.underlying106 rfl HIH.out) hHeld3 ?r0m
              case x0m => first | rfl | (simp [Act.eval, go_sem]; done)
              try simp only [Act.put, List.setIfInBounds_toArray, List.set_cons_zero, List.set_cons_succ]
              refine wpAnyH_take (i := 1) (oi := ⟨some 6, _, _, _, _, _⟩) (v := ?v1m) rfl (by kernel_rfl) (by kernel_rfl) (by kernel_rfl) (fun _ _ _ h => h) (Or.inl ⟨by rfl, ?y1m⟩) hHeld3 ?r1m
              case y1m =>
                rintro w' hSw
                go_simp
                try with_reducible rfl
              try simp only [Act.put, List.setIfInBounds_toArray, List.set_cons_zero, List.set_cons_succ]
              refine wpAnyH_ready (rs := [2]) (by kernel_rfl) (by simp) ?_
              refine AllReadyH.cons rfl (fun K hK => ?_) AllReadyH.nil
              rw [if_pos (by rfl)]
              refine wp_store_whole 106 (.tmp 7) (.tmp 59) rfl b7 (hcs T A) rfl rfl 106 (mostV (headsH L n k)) (Row.drew RB7.out) (by rfl) (hcs_one _ _) HIH.out ?_
              intro w9 hr9 hg9
              replace hg9 : W.grownBy w9 (some b7) := ⟨hg9.os, hg9.tape, hg9.output, hg9.size, hg9.block⟩
              have R109 : Hid (Row w9 b10 106 (hcs T A)) := RW.out.grown hg9 (fun e => by have := Option.some.inj e; have := HNE.out; omega)
              have HREL : Hid (Row w9 b7 106 (mostV (headsH L n (k + 1))) ∧ Row w9 w.heap.size 106 [.int .u32 0, .int .u32 0] ∧ Row w9 gs 89 (bv L.flatten) ∧ Dk w9 F2 dg d2 ∧ Off F w w9) := Lib.hid ⟨by rw [HNX.out]; exact hr9, RRES.out.grown hg9 (fun e => by have := Option.some.inj e; have := HB7.out; omega), RGS.out.grown hg9 (fun e => by
                have h1 := row_type RGS.out ((Option.some.inj e) ▸ RB7.out); exact absurd h1 (by decide)), RDK.out.grown RB7.out (by decide) (by decide) (by decide) hg9, ROF.out.grown hg9 (fun r e => .inr (by have := Option.some.inj e; have := HB7.out; omega))⟩
              clear hr9 hg9
              refine hK _ _ R109.out (fun _ => ?_)
              clear hK K
              try simp only [Act.put, List.setIfInBounds_toArray, List.set_cons_zero, List.set_cons_succ]
              refine wpAnyH_done (by kernel_rfl) ?_ _
              go_wp2
              go_roundw
              case rel => exact ⟨k + 1, by omega, by go_num, by rw [HNX.out]; rfl, HREL⟩
              case measure => simp [intOf]; omega
            | some m =>
              rw [hm] at e7
              simp only [Option.getD_some] at e7
              by_cases hgt : m.1 < T
              · have hs : stepH x k n (headsH L n k) = some (T, A) := by
                  unfold stepH
                  rw [if_pos ⟨hrt.symm, .inr (by rw [hm, HTE.out]; exact hgt)⟩, HTE.out, HAE.out]
                rw [hs] at hnx
                have HNX := Lib.hid hnx
                have HMM := Lib.hid hm
                have hg2 : (m.1 : Int) < (T : Int) := by omega
                clear hnx hs hrt hm
                simp only [Option.isSome_some]
                go_wp2_with fail
                refine wp_region_held_drew (S := (fun w' => Row w' b10 106 (hcs T A))) (by kernel_rfl) RW.out (fun hHeld3 => ?_)
                refine wpAnyH_take (i := 0) (oi := ⟨some 59, _, _, _, _, _⟩) rfl (by kernel_rfl) (by kernel_rfl) (by kernel_rfl) (fun _ _ _ h => h) (yieldsIf_load_mid (by rfl) 106 (.tmp 10) rfl b10 0 ?x0n (hcs T A) _ (fun _ hS => Row.all hS) Try.underlying106 rfl HIH.out) hHeld3 ?r0n
                case x0n => first | rfl | (simp [Act.eval, go_sem]; done)
                try simp only [Act.put, List.setIfInBounds_toArray, List.set_cons_zero, List.set_cons_succ]
                refine wpAnyH_take (i := 1) (oi := ⟨some 6, _, _, _, _, _⟩) (v := ?v1n) rfl (by kernel_rfl) (by kernel_rfl) (by kernel_rfl) (fun _ _ _ h => h) (Or.inl ⟨by rfl, ?y1n⟩) hHeld3 ?r1n
                case y1n =>
                  rintro w' hSw
                  go_simp
                  try with_reducible rfl
                try simp only [Act.put, List.setIfInBounds_toArray, List.set_cons_zero, List.set_cons_succ]
                refine wpAnyH_ready (rs := [2]) (by kernel_rfl) (by simp) ?_
                refine AllReadyH.cons rfl (fun K hK => ?_) AllReadyH.nil
                rw [if_pos (by rfl)]
                refine wp_store_whole 106 (.tmp 7) (.tmp 59) rfl b7 (hcs T A) rfl rfl 106 (mostV (headsH L n k)) (Row.drew RB7.out) (by rfl) (hcs_one _ _) HIH.out ?_
                intro w9 hr9 hg9
                replace hg9 : W.grownBy w9 (some b7) := ⟨hg9.os, hg9.tape, hg9.output, hg9.size, hg9.block⟩
                have R109 : Hid (Row w9 b10 106 (hcs T A)) := RW.out.grown hg9 (fun e => by have := Option.some.inj e; have := HNE.out; omega)
                have HREL : Hid (Row w9 b7 106 (mostV (headsH L n (k + 1))) ∧ Row w9 w.heap.size 106 [.int .u32 0, .int .u32 0] ∧ Row w9 gs 89 (bv L.flatten) ∧ Dk w9 F2 dg d2 ∧ Off F w w9) := Lib.hid ⟨by rw [HNX.out]; exact hr9, RRES.out.grown hg9 (fun e => by have := Option.some.inj e; have := HB7.out; omega), RGS.out.grown hg9 (fun e => by
                  have h1 := row_type RGS.out ((Option.some.inj e) ▸ RB7.out); exact absurd h1 (by decide)), RDK.out.grown RB7.out (by decide) (by decide) (by decide) hg9, ROF.out.grown hg9 (fun r e => .inr (by have := Option.some.inj e; have := HB7.out; omega))⟩
                clear hr9 hg9
                refine hK _ _ R109.out (fun _ => ?_)
                clear hK K
                try simp only [Act.put, List.setIfInBounds_toArray, List.set_cons_zero, List.set_cons_succ]
                refine wpAnyH_done (by kernel_rfl) ?_ _
                go_wp2
                go_roundw
                case rel => exact ⟨k + 1, by omega, by go_num, by rw [HNX.out]; rfl, HREL⟩
                case measure => simp [intOf]; omega
              · have hs : stepH x k n (headsH L n k) = headsH L n k := by
                  unfold stepH
                  refine if_neg (fun hh => ?_)
                  obtain ⟨_, h⟩ := hh
                  rcases h with h | h
                  · rw [hm] at h; cases h
                  · rw [hm, HTE.out] at h; exact hgt h
                rw [hs] at hnx
                have HREL : Hid (Row W b7 106 (mostV (headsH L n (k + 1))) ∧ Row W w.heap.size 106 [.int .u32 0, .int .u32 0] ∧ Row W gs 89 (bv L.flatten) ∧ Dk W F2 dg d2 ∧ Off F w W) := Lib.hid ⟨by rw [hnx]; exact RB7.out, RRES.out, RGS.out, RDK.out, ROF.out⟩
                have HNX := Lib.hid hnx
                have HMM := Lib.hid hm
                have hg2 : ¬ (m.1 : Int) < (T : Int) := by omega
                clear hnx hs hrt hm
                simp only [Option.isSome_some]
                go_wp2
                go_roundw
                case rel => exact ⟨k + 1, by omega, by go_num, by rw [HNX.out, HMM.out]; rfl, HREL⟩
                case measure => simp [intOf]; omega
        have FIN := Lib.hid fin
        clear fin
        cases ok with
        | false =>
          have HRT : Hid (false = rightH x k n) := Lib.hid (by
            unfold rightH; rw [HOKE.out]; rfl)
          have HBW := Lib.hid HB6.out.drew
          refine wp_region_held_drew (S := (fun w' => Row w' b10 106 (hcs T A))) (by kernel_rfl) R106.out (fun hHeld => ?_)
          refine wpAnyH_take (i := 0) (oi := ⟨some 34, _, _, _, _, _⟩) (v := ?v0p) rfl (by kernel_rfl) (by kernel_rfl) (by kernel_rfl) (fun _ _ _ h => h) (Or.inl ⟨by rfl, ?y0p⟩) hHeld ?r0p
          case y0p =>
            rintro w' hSw
            go_simp
            try with_reducible rfl
          try simp only [Act.put, List.setIfInBounds_toArray, List.set_cons_zero, List.set_cons_succ]
          refine wpAnyH_take (i := 1) (oi := ⟨some 35, _, _, _, _, _⟩) (v := ?v1p) rfl (by kernel_rfl) (by kernel_rfl) (by kernel_rfl) (fun _ _ _ h => h) (Or.inl ⟨by rfl, ?y1p⟩) hHeld ?r1p
          case y1p =>
            rintro w' hSw
            go_simp
            try with_reducible rfl
          try simp only [Act.put, List.setIfInBounds_toArray, List.set_cons_zero, List.set_cons_succ]
          refine wpAnyH_take (i := 2) (oi := ⟨some 36, _, _, _, _, _⟩) (v := undef) rfl (by kernel_rfl) (by kernel_rfl) (by kernel_rfl) (fun _ _ _ h => h) (Or.inr ⟨by rfl, rfl⟩) hHeld ?r2p
          try simp only [Act.put, List.setIfInBounds_toArray, List.set_cons_zero, List.set_cons_succ]
          refine wpAnyH_take (i := 3) (oi := ⟨some 37, _, _, _, _, _⟩) (v := undef) rfl (by kernel_rfl) (by kernel_rfl) (by kernel_rfl) (fun _ _ _ h => h) (Or.inr ⟨by rfl, rfl⟩) hHeld ?r3p
          try simp only [Act.put, List.setIfInBounds_toArray, List.set_cons_zero, List.set_cons_succ]
          refine wpAnyH_take (i := 4) (oi := ⟨some 38, _, _, _, _, _⟩) (v := undef) rfl (by kernel_rfl) (by kernel_rfl) (by kernel_rfl) (fun _ _ _ h => h) (Or.inr ⟨by rfl, rfl⟩) hHeld ?r4p
          try simp only [Act.put, List.setIfInBounds_toArray, List.set_cons_zero, List.set_cons_succ]
          refine wpAnyH_take (i := 5) (oi := ⟨some 39, _, _, _, _, _⟩) (v := undef) rfl (by kernel_rfl) (by kernel_rfl) (by kernel_rfl) (fun _ _ _ h => h) (Or.inr ⟨by rfl, rfl⟩) hHeld ?r5p
          try simp only [Act.put, List.setIfInBounds_toArray, List.set_cons_zero, List.set_cons_succ]
          refine wpAnyH_take (i := 6) (oi := ⟨some 40, _, _, _, _, _⟩) (v := ?v6p) rfl (by kernel_rfl) (by kernel_rfl) (by kernel_rfl) (fun _ _ _ h => h) (Or.inl ⟨by rfl, ?y6p⟩) hHeld ?r6p
          case y6p =>
            rintro w' hSw
            go_simp
            try with_reducible rfl
          try simp only [Act.put, List.setIfInBounds_toArray, List.set_cons_zero, List.set_cons_succ]
          refine wpAnyH_take (i := 7) (oi := ⟨some 41, _, _, _, _, _⟩) (v := ?v7p) rfl (by kernel_rfl) (by kernel_rfl) (by kernel_rfl) (fun _ _ _ h => h) (Or.inl ⟨by rfl, ?y7p⟩) hHeld ?r7p
          case y7p =>
            rintro w' hSw
            go_simp
            try with_reducible rfl
          try simp only [Act.put, List.setIfInBounds_toArray, List.set_cons_zero, List.set_cons_succ]
          refine wpAnyH_take (i := 8) (oi := ⟨some 42, _, _, _, _, _⟩) (v := undef) rfl (by kernel_rfl) (by kernel_rfl) (by kernel_rfl) (fun _ _ _ h => h) (Or.inr ⟨by rfl, rfl⟩) hHeld ?r8p
          try simp only [Act.put, List.setIfInBounds_toArray, List.set_cons_zero, List.set_cons_succ]
          refine wpAnyH_take (i := 9) (oi := ⟨some 43, _, _, _, _, _⟩) (v := undef) rfl (by kernel_rfl) (by kernel_rfl) (by kernel_rfl) (fun _ _ _ h => h) (Or.inr ⟨by rfl, rfl⟩) hHeld ?r9p
          try simp only [Act.put, List.setIfInBounds_toArray, List.set_cons_zero, List.set_cons_succ]
          refine wpAnyH_take (i := 10) (oi := ⟨some 44, _, _, _, _, _⟩) (v := undef) rfl (by kernel_rfl) (by kernel_rfl) (by kernel_rfl) (fun _ _ _ h => h) (Or.inr ⟨by rfl, rfl⟩) hHeld ?r10p
          try simp only [Act.put, List.setIfInBounds_toArray, List.set_cons_zero, List.set_cons_succ]
          refine wpAnyH_take (i := 11) (oi := ⟨some 45, _, _, _, _, _⟩) (v := undef) rfl (by kernel_rfl) (by kernel_rfl) (by kernel_rfl) (fun _ _ _ h => h) (Or.inr ⟨by rfl, rfl⟩) hHeld ?r11p
          try simp only [Act.put, List.setIfInBounds_toArray, List.set_cons_zero, List.set_cons_succ]
          refine wpAnyH_take (i := 12) (oi := ⟨some 46, _, _, _, _, _⟩) (v := ?v12p) rfl (by kernel_rfl) (by kernel_rfl) (by kernel_rfl) (fun _ _ _ h => h) (Or.inl ⟨by rfl, ?y12p⟩) hHeld ?r12p
          case y12p =>
            rintro w' hSw
            go_simp
            try with_reducible rfl
          try simp only [Act.put, List.setIfInBounds_toArray, List.set_cons_zero, List.set_cons_succ]
          refine wpAnyH_take (i := 13) (oi := ⟨some 12, _, _, _, _, _⟩) (v := ?v13p) rfl (by kernel_rfl) (by kernel_rfl) (by kernel_rfl) (fun _ _ _ h => h) (Or.inl ⟨by rfl, ?y13p⟩) hHeld ?r13p
          case y13p =>
            rintro w' hSw
            go_simp
            try with_reducible rfl
          try simp only [Act.put, List.setIfInBounds_toArray, List.set_cons_zero, List.set_cons_succ]
          refine wpAnyH_done (by kernel_rfl) ?_ _
          exact FIN.out _ _ _ _ _ _ _ _ _ _ _ _ _ _ _ HRT.out HBW.out (Row.drew R106.out)
        | true =>
          by_cases hpl : T % 2 = k
          · have hpi : ((T % 2 : Nat) : Int) = (k : Int) := by omega
            refine wp_region_held_drew (S := (fun w' => Row w' b10 106 (hcs T A))) (by kernel_rfl) R106.out (fun hHeld => ?_)
            refine wpAnyH_take (i := 0) (oi := ⟨some 34, _, _, _, _, _⟩) (v := ?v0q) rfl (by kernel_rfl) (by kernel_rfl) (by kernel_rfl) (fun _ _ _ h => h) (Or.inl ⟨by rfl, ?y0q⟩) hHeld ?r0q
            case y0q =>
              rintro w' hSw
              go_simp
              try with_reducible rfl
            try simp only [Act.put, List.setIfInBounds_toArray, List.set_cons_zero, List.set_cons_succ]
            refine wpAnyH_take (i := 1) (oi := ⟨some 35, _, _, _, _, _⟩) (v := ?v1q) rfl (by kernel_rfl) (by kernel_rfl) (by kernel_rfl) (fun _ _ _ h => h) (Or.inl ⟨by rfl, ?y1q⟩) hHeld ?r1q
            case y1q =>
              rintro w' hSw
              go_simp
              try with_reducible rfl
            try simp only [Act.put, List.setIfInBounds_toArray, List.set_cons_zero, List.set_cons_succ]
            refine wpAnyH_take (i := 2) (oi := ⟨some 36, _, _, _, _, _⟩) rfl (by kernel_rfl) (by kernel_rfl) (by kernel_rfl) (fun _ _ _ h => h) (yieldsIf_load_mid (by rfl) 106 (.tmp 10) rfl b10 0 ?x2q (hcs T A) _ (fun _ hS => Row.all hS) Try.underlying106 rfl HIH.out) hHeld ?r2q
            case x2q => first | rfl | (simp [Act.eval, go_sem]; done)
            try simp only [Act.put, List.setIfInBounds_toArray, List.set_cons_zero, List.set_cons_succ]
            refine wpAnyH_take (i := 4) (oi := ⟨some 38, _, _, _, _, _⟩) (v := ?v4q) rfl (by kernel_rfl) (by kernel_rfl) (by kernel_rfl) (fun _ _ _ h => h) (Or.inl ⟨by rfl, ?y4q⟩) hHeld ?r4q
            case y4q =>
              rintro w' hSw
              go_simp
              try with_reducible rfl
            try simp only [Act.put, List.setIfInBounds_toArray, List.set_cons_zero, List.set_cons_succ]
            refine wpAnyH_ready (rs := [3]) (by kernel_rfl) (by simp) ?_
            refine AllReadyH.cons rfl (fun K hK => ?_) AllReadyH.nil
            go_simp
            refine (place_any T A w6.drew hT2).mono ?_
            rintro e w7 ⟨rfl, hb7x⟩
            have hr7 : Row w7 b10 106 (hcs T A) := (Row.drew R106.out).below hb7x (Row.drew R106.out).lt
            have R107 := Lib.hid hr7
            have HB7w : Hid (Below wr.heap.size wr w7) := Lib.hid (HB6.out.drew.trans (hb7x.mono HB6.out.drew.size))
            clear hb7x hr7
            refine hK _ _ R107.out (fun _ => ?_)
            clear hK K
            try simp only [Act.put, List.setIfInBounds_toArray, List.set_cons_zero, List.set_cons_succ]
            refine wpAnyH_take (i := 5) (oi := ⟨some 39, _, _, _, _, _⟩) (v := ?v5q) rfl (by kernel_rfl) (by kernel_rfl) (by kernel_rfl) (fun _ _ _ h => h) (Or.inl ⟨by rfl, ?y5q⟩) R107.out ?r5q
            case y5q =>
              rintro w' hSw
              simp only [hpi, beq_self_eq_true, decide_true]
              go_simp
              try with_reducible rfl
            try simp only [Act.put, List.setIfInBounds_toArray, List.set_cons_zero, List.set_cons_succ]
            refine wpAnyH_take (i := 6) (oi := ⟨some 40, _, _, _, _, _⟩) (v := ?v6q) rfl (by kernel_rfl) (by kernel_rfl) (by kernel_rfl) (fun _ _ _ h => h) (Or.inl ⟨by rfl, ?y6q⟩) R107.out ?r6q
            case y6q =>
              rintro w' hSw
              go_simp
              try with_reducible rfl
            try simp only [Act.put, List.setIfInBounds_toArray, List.set_cons_zero, List.set_cons_succ]
            refine wpAnyH_take (i := 7) (oi := ⟨some 41, _, _, _, _, _⟩) (v := ?v7q) rfl (by kernel_rfl) (by kernel_rfl) (by kernel_rfl) (fun _ _ _ h => h) (Or.inl ⟨by rfl, ?y7q⟩) R107.out ?r7q
            case y7q =>
              rintro w' hSw
              go_simp
              try with_reducible rfl
            try simp only [Act.put, List.setIfInBounds_toArray, List.set_cons_zero, List.set_cons_succ]
            refine wpAnyH_take (i := 8) (oi := ⟨some 42, _, _, _, _, _⟩) rfl (by kernel_rfl) (by kernel_rfl) (by kernel_rfl) (fun _ _ _ h => h) (yieldsIf_load_mid (by rfl) 106 (.tmp 10) rfl b10 0 ?x8q (hcs T A) _ (fun _ hS => Row.all hS) Try.underlying106 rfl HIH.out) R107.out ?r8q
            case x8q => first | rfl | (simp [Act.eval, go_sem]; done)
            try simp only [Act.put, List.setIfInBounds_toArray, List.set_cons_zero, List.set_cons_succ]
            refine wpAnyH_take (i := 9) (oi := ⟨some 43, _, _, _, _, _⟩) (v := ?v9q) rfl (by kernel_rfl) (by kernel_rfl) (by kernel_rfl) (fun _ _ _ h => h) (Or.inl ⟨by rfl, ?y9q⟩) R107.out ?r9q
            case y9q =>
              rintro w' hSw
              go_simp
              try with_reducible rfl
            try simp only [Act.put, List.setIfInBounds_toArray, List.set_cons_zero, List.set_cons_succ]
            refine wpAnyH_ready (rs := [10]) (by kernel_rfl) (by simp) ?_
            refine AllReadyH.cons rfl (fun K hK => ?_) AllReadyH.nil
            go_simp
            refine (len_any dg d2 F2 w7 (HI.out.2.2.2.1.below HB7w.out).1.1).mono ?_
            rintro e w8 ⟨rfl, hw8⟩
            subst hw8
            refine hK _ _ R107.out (fun _ => ?_)
            clear hK K
            try simp only [Act.put, List.setIfInBounds_toArray, List.set_cons_zero, List.set_cons_succ]
            refine wpAnyH_ready (rs := [11]) (by kernel_rfl) (by simp) ?_
            refine AllReadyH.cons rfl (fun K hK => ?_) AllReadyH.nil
            have hdn : d2.sec.length = n := by rw [HSEC.out, HNN.out]
            rw [hdn]
            clear hdn
            go_simp
            refine (fits_any T A n w8 hT2 hA2 hn2).mono ?_
            rintro e w9 ⟨rfl, hb9x⟩
            have R109 : Hid (Row w9 b10 106 (hcs T A)) := Lib.hid (R107.out.below hb9x R107.out.lt)
            have HB9w : Hid (Below wr.heap.size wr w9) := Lib.hid (HB7w.out.trans (hb9x.mono HB7w.out.size))
            clear hb9x
            refine hK _ _ R109.out (fun _ => ?_)
            clear hK K
            try simp only [Act.put, List.setIfInBounds_toArray, List.set_cons_zero, List.set_cons_succ]
            refine wpAnyH_take (i := 12) (oi := ⟨some 46, _, _, _, _, _⟩) (v := ?v12q) rfl (by kernel_rfl) (by kernel_rfl) (by kernel_rfl) (fun _ _ _ h => h) (Or.inl ⟨by rfl, ?y12q⟩) R109.out ?r12q
            case y12q =>
              rintro w' hSw
              go_simp
              try with_reducible rfl
            try simp only [Act.put, List.setIfInBounds_toArray, List.set_cons_zero, List.set_cons_succ]
            refine wpAnyH_take (i := 13) (oi := ⟨some 12, _, _, _, _, _⟩) (v := ?v13q) rfl (by kernel_rfl) (by kernel_rfl) (by kernel_rfl) (fun _ _ _ h => h) (Or.inl ⟨by rfl, ?y13q⟩) R109.out ?r13q
            case y13q =>
              rintro w' hSw
              go_simp
              try with_reducible rfl
            try simp only [Act.put, List.setIfInBounds_toArray, List.set_cons_zero, List.set_cons_succ]
            refine wpAnyH_done (by kernel_rfl) ?_ _
            refine FIN.out _ _ _ _ _ _ _ _ _ _ _ _ _ _ _ ?_ HB9w.out R109.out
            unfold rightH
            rw [HOKE.out, HTE.out, HAE.out, hpl]
            simp
          · have hpi : ¬ ((T % 2 : Nat) : Int) = (k : Int) := by omega
            refine wp_region_held_drew (S := (fun w' => Row w' b10 106 (hcs T A))) (by kernel_rfl) R106.out (fun hHeld => ?_)
            refine wpAnyH_take (i := 0) (oi := ⟨some 34, _, _, _, _, _⟩) (v := ?v0r) rfl (by kernel_rfl) (by kernel_rfl) (by kernel_rfl) (fun _ _ _ h => h) (Or.inl ⟨by rfl, ?y0r⟩) hHeld ?r0r
            case y0r =>
              rintro w' hSw
              go_simp
              try with_reducible rfl
            try simp only [Act.put, List.setIfInBounds_toArray, List.set_cons_zero, List.set_cons_succ]
            refine wpAnyH_take (i := 1) (oi := ⟨some 35, _, _, _, _, _⟩) (v := ?v1r) rfl (by kernel_rfl) (by kernel_rfl) (by kernel_rfl) (fun _ _ _ h => h) (Or.inl ⟨by rfl, ?y1r⟩) hHeld ?r1r
            case y1r =>
              rintro w' hSw
              go_simp
              try with_reducible rfl
            try simp only [Act.put, List.setIfInBounds_toArray, List.set_cons_zero, List.set_cons_succ]
            refine wpAnyH_take (i := 2) (oi := ⟨some 36, _, _, _, _, _⟩) rfl (by kernel_rfl) (by kernel_rfl) (by kernel_rfl) (fun _ _ _ h => h) (yieldsIf_load_mid (by rfl) 106 (.tmp 10) rfl b10 0 ?x2r (hcs T A) _ (fun _ hS => Row.all hS) Try.underlying106 rfl HIH.out) hHeld ?r2r
            case x2r => first | rfl | (simp [Act.eval, go_sem]; done)
            try simp only [Act.put, List.setIfInBounds_toArray, List.set_cons_zero, List.set_cons_succ]
            refine wpAnyH_take (i := 4) (oi := ⟨some 38, _, _, _, _, _⟩) (v := ?v4r) rfl (by kernel_rfl) (by kernel_rfl) (by kernel_rfl) (fun _ _ _ h => h) (Or.inl ⟨by rfl, ?y4r⟩) hHeld ?r4r
            case y4r =>
              rintro w' hSw
              go_simp
              try with_reducible rfl
            try simp only [Act.put, List.setIfInBounds_toArray, List.set_cons_zero, List.set_cons_succ]
            refine wpAnyH_ready (rs := [3]) (by kernel_rfl) (by simp) ?_
            refine AllReadyH.cons rfl (fun K hK => ?_) AllReadyH.nil
            go_simp
            refine (place_any T A w6.drew hT2).mono ?_
            rintro e w7 ⟨rfl, hb7x⟩
            have hr7 : Row w7 b10 106 (hcs T A) := (Row.drew R106.out).below hb7x (Row.drew R106.out).lt
            have R107 := Lib.hid hr7
            have HB7w : Hid (Below wr.heap.size wr w7) := Lib.hid (HB6.out.drew.trans (hb7x.mono HB6.out.drew.size))
            clear hb7x hr7
            refine hK _ _ R107.out (fun _ => ?_)
            clear hK K
            try simp only [Act.put, List.setIfInBounds_toArray, List.set_cons_zero, List.set_cons_succ]
            refine wpAnyH_take (i := 5) (oi := ⟨some 39, _, _, _, _, _⟩) (v := .bool false) rfl (by kernel_rfl) (by kernel_rfl) (by kernel_rfl) (fun _ _ _ h => h) (Or.inl ⟨by rfl, ?y5r⟩) R107.out ?r5r
            case y5r =>
              rintro w' hSw
              go_simp
              omega
            try simp only [Act.put, List.setIfInBounds_toArray, List.set_cons_zero, List.set_cons_succ]
            refine wpAnyH_take (i := 6) (oi := ⟨some 40, _, _, _, _, _⟩) (v := ?v6r) rfl (by kernel_rfl) (by kernel_rfl) (by kernel_rfl) (fun _ _ _ h => h) (Or.inl ⟨by rfl, ?y6r⟩) R107.out ?r6r
            case y6r =>
              rintro w' hSw
              go_simp
              try with_reducible rfl
            try simp only [Act.put, List.setIfInBounds_toArray, List.set_cons_zero, List.set_cons_succ]
            refine wpAnyH_take (i := 7) (oi := ⟨some 41, _, _, _, _, _⟩) (v := ?v7r) rfl (by kernel_rfl) (by kernel_rfl) (by kernel_rfl) (fun _ _ _ h => h) (Or.inl ⟨by rfl, ?y7r⟩) R107.out ?r7r
            case y7r =>
              rintro w' hSw
              go_simp
              try with_reducible rfl
            try simp only [Act.put, List.setIfInBounds_toArray, List.set_cons_zero, List.set_cons_succ]
            refine wpAnyH_take (i := 8) (oi := ⟨some 42, _, _, _, _, _⟩) (v := undef) rfl (by kernel_rfl) (by kernel_rfl) (by kernel_rfl) (fun _ _ _ h => h) (Or.inr ⟨by rfl, rfl⟩) R107.out ?r8r
            try simp only [Act.put, List.setIfInBounds_toArray, List.set_cons_zero, List.set_cons_succ]
            refine wpAnyH_take (i := 9) (oi := ⟨some 43, _, _, _, _, _⟩) (v := undef) rfl (by kernel_rfl) (by kernel_rfl) (by kernel_rfl) (fun _ _ _ h => h) (Or.inr ⟨by rfl, rfl⟩) R107.out ?r9r
            try simp only [Act.put, List.setIfInBounds_toArray, List.set_cons_zero, List.set_cons_succ]
            refine wpAnyH_take (i := 10) (oi := ⟨some 44, _, _, _, _, _⟩) (v := undef) rfl (by kernel_rfl) (by kernel_rfl) (by kernel_rfl) (fun _ _ _ h => h) (Or.inr ⟨by rfl, rfl⟩) R107.out ?r10r
            try simp only [Act.put, List.setIfInBounds_toArray, List.set_cons_zero, List.set_cons_succ]
            refine wpAnyH_take (i := 11) (oi := ⟨some 45, _, _, _, _, _⟩) (v := undef) rfl (by kernel_rfl) (by kernel_rfl) (by kernel_rfl) (fun _ _ _ h => h) (Or.inr ⟨by rfl, rfl⟩) R107.out ?r11r
            try simp only [Act.put, List.setIfInBounds_toArray, List.set_cons_zero, List.set_cons_succ]
            refine wpAnyH_take (i := 12) (oi := ⟨some 46, _, _, _, _, _⟩) (v := ?v12r) rfl (by kernel_rfl) (by kernel_rfl) (by kernel_rfl) (fun _ _ _ h => h) (Or.inl ⟨by rfl, ?y12r⟩) R107.out ?r12r
            case y12r =>
              rintro w' hSw
              go_simp
              try with_reducible rfl
            try simp only [Act.put, List.setIfInBounds_toArray, List.set_cons_zero, List.set_cons_succ]
            refine wpAnyH_take (i := 13) (oi := ⟨some 12, _, _, _, _, _⟩) (v := ?v13r) rfl (by kernel_rfl) (by kernel_rfl) (by kernel_rfl) (fun _ _ _ h => h) (Or.inl ⟨by rfl, ?y13r⟩) R107.out ?r13r
            case y13r =>
              rintro w' hSw
              go_simp
              try with_reducible rfl
            try simp only [Act.put, List.setIfInBounds_toArray, List.set_cons_zero, List.set_cons_succ]
            refine wpAnyH_done (by kernel_rfl) ?_ _
            refine FIN.out _ _ _ _ _ _ _ _ _ _ _ _ _ _ _ ?_ HB7w.out R107.out
            unfold rightH
            rw [HTE.out, decide_eq_false hpl]
            simp
      · have hk2 : k = 2 := by omega
        subst hk2
        have h1 : ¬ ((2 : Nat) : Int) < 2 := by omega
        cases hm : headsH L n 2 with
        | none =>
          have R23 := Lib.hid HI.out.2.1
          have HD3 := Lib.hid HI.out.2.2.2.1
          have HO3 := Lib.hid HI.out.2.2.2.2
          simp only [Option.isSome_none]
          have HM := Lib.hid hm
          clear hm
          have HLH := Lib.hid (show (hcs 0 0).length = ([.int .u32 0, .int .u32 0] : List Value).length from rfl)
          have HIH := Lib.hid (show (Try.prog.info? 106).map (·.size) = some (hcs 0 0).length from size106)
          go_wp2_with (first
            | (with_reducible refine wpList_store_whole (op := ⟨none, _, _, _, _, _⟩) ?_ 106 (.tmp 2) (.tmp 63) ?_ w.heap.size (hcs 0 0) ?_ ?_ 106 [.int .u32 0, .int .u32 0] R23.out HLH.out (hcs_one _ _) HIH.out ?_))
          all_goals try (first | rfl | (simp; done))
          intro w9 hr9 hg9
          have HRES := Lib.hid (run_loadVar_mid (P := Try.prog) w9 w.heap.size 0 106 (hcs 0 0) _ (Row.all hr9) Try.underlying106 rfl HIH.out)
          have HD9 := Lib.hid (HD3.out.grown R23.out (by decide) (by decide) (by decide) hg9)
          have HO9 := Lib.hid (HO3.out.grown hg9 (fun r e => .inr (Nat.le_of_eq (Option.some.inj e))))
          have HX9 : Hid (Ext F F2 w w9) := Lib.hid fun k hk => by
            rcases HX2.out k hk with h | h
            · exact .inl h
            · exact .inr ⟨h.1, HD9.out.1.2 _ hk⟩
          clear hr9 hg9
          go_wp2
          refine bodyPost_ret (v := .tuple #[.agg (hcs 0 0).toArray, .int .i64 140]) (Dsk.results_cell_tmp (p := 2) (q := 3) (ty := 106) rfl _ _ ⟨w.heap.size, 0, none⟩ _ _ rfl HRES.out rfl) rfl ⟨F2, ?_, HX9.out, HO9.out, ?_⟩
          · rw [HE.out]; exact HD9.out
          · rw [HE.out, if_pos rfl]
            show _ = Ending.returned (headsOut L d.sec.length)
            unfold headsOut
            rw [HNN.out, HM.out]
        | some m =>
          have R73 : Hid (Row wr b7 106 (hcs m.1 m.2)) := Lib.hid (by have := HI.out.1; rw [hm] at this; exact this)
          have R23 := Lib.hid HI.out.2.1
          have HD3 := Lib.hid HI.out.2.2.2.1
          have HO3 := Lib.hid HI.out.2.2.2.2
          simp only [Option.isSome_some]
          have HM := Lib.hid hm
          clear hm
          have HLH := Lib.hid (show (hcs m.1 m.2).length = ([.int .u32 0, .int .u32 0] : List Value).length from rfl)
          have HIH := Lib.hid (show (Try.prog.info? 106).map (·.size) = some (hcs m.1 m.2).length from size106)
          go_wp2_with (first
            | (with_reducible refine wpList_load_row (op := ⟨some 64, _, _, _, _, _⟩) ?_ 106 (.tmp 7) ?_ b7 0 ?_ (hcs m.1 m.2) _ (Row.all R73.out) Try.underlying106 ?_ HIH.out ?_)
            | (with_reducible refine wpList_store_whole (op := ⟨none, _, _, _, _, _⟩) ?_ 106 (.tmp 2) (.tmp 64) ?_ w.heap.size (hcs m.1 m.2) ?_ ?_ 106 [.int .u32 0, .int .u32 0] R23.out HLH.out (hcs_one _ _) HIH.out ?_))
          all_goals try (first | rfl | (simp; done))
          intro w9 hr9 hg9
          have HRES := Lib.hid (run_loadVar_mid (P := Try.prog) w9 w.heap.size 0 106 (hcs m.1 m.2) _ (Row.all hr9) Try.underlying106 rfl HIH.out)
          have HD9 := Lib.hid (HD3.out.grown R23.out (by decide) (by decide) (by decide) hg9)
          have HO9 := Lib.hid (HO3.out.grown hg9 (fun r e => .inr (Nat.le_of_eq (Option.some.inj e))))
          have HX9 : Hid (Ext F F2 w w9) := Lib.hid fun k hk => by
            rcases HX2.out k hk with h | h
            · exact .inl h
            · exact .inr ⟨h.1, HD9.out.1.2 _ hk⟩
          clear hr9 hg9
          go_wp2
          refine bodyPost_ret (v := .tuple #[.agg (hcs m.1 m.2).toArray, .int .i64 0]) (Dsk.results_cell_tmp (p := 2) (q := 3) (ty := 106) rfl _ _ ⟨w.heap.size, 0, none⟩ _ _ rfl HRES.out rfl) rfl ⟨F2, ?_, HX9.out, HO9.out, ?_⟩
          · rw [HE.out]; exact HD9.out
          · rw [HE.out, if_pos rfl]
            show _ = Ending.returned (headsOut L d.sec.length)
            unfold headsOut
            rw [HNN.out, HM.out]
  · have HLH := Lib.hid (show (hcs 0 0).length = ([.int .u32 0, .int .u32 0] : List Value).length from rfl)
    have HIH := Lib.hid (show (Try.prog.info? 106).map (·.size) = some (hcs 0 0).length from size106)
    go_wp2_with (first
      | (with_reducible refine wpList_store_whole (op := ⟨none, _, _, _, _, _⟩) ?_ 106 (.tmp 2) (.tmp 20) ?_ w.heap.size (hcs 0 0) ?_ ?_ 106 [.int .u32 0, .int .u32 0] R2.out HLH.out (hcs_one _ _) HIH.out ?_))
    all_goals try (first | rfl | (simp; done))
    intro w3 hr3 hg3
    have HRES := Lib.hid (run_loadVar_mid (P := Try.prog) w3 w.heap.size 0 106 (hcs 0 0) _ (Row.all hr3) Try.underlying106 rfl HIH.out)
    have HD3 := Lib.hid (HD2.out.grown R2.out (by decide) (by decide) (by decide) hg3)
    have HO3 := Lib.hid (HO2.out.grown hg3 (fun r e => .inr (Nat.le_of_eq (Option.some.inj e))))
    have HX3 : Hid (Ext F F2 w w3) := Lib.hid fun k hk => by
      rcases HX2.out k hk with h | h
      · exact .inl h
      · exact .inr ⟨h.1, Nat.lt_of_lt_of_le h.2 hg3.size⟩
    clear hr3 hg3
    go_wp2
    refine bodyPost_ret (v := .tuple #[.agg (hcs 0 0).toArray, .int .i64 er]) (Dsk.results_cell_tmp (p := 2) (q := 3) (ty := 106) rfl _ _ ⟨w.heap.size, 0, none⟩ _ _ rfl HRES.out rfl) rfl ⟨F2, ?_, HX3.out, HO3.out, ?_⟩
    · rw [HE.out]; exact HD3.out
    · rw [HE.out, if_neg h0]
end Go.Proofs.Yteemdjamgbbjhaa.Wl

/-
  The bytes that a frame's sectors claim.
-/
namespace Go.Proofs.Yteemdjamgbbjhaa.Wl
set_option maxRecDepth 100000
open Go.RowKit Go.Shelf Go.Proofs.Yteemdjamgbbjhaa.Wd Go.Proofs.Yteemdjamgbbjhaa.Dsk Go.Proofs.Yteemdjamgbbjhaa.Oct Go.Proofs.Yteemdjamgbbjhaa.Sum

/-- what claimed answers -/
def Cl (w w' : World) (m : Option (List UInt8)) (e : Ending) : Prop :=
  (m = none ∧ e = .returned (.tuple #[.slice none 0 0, .bool false])) ∨ ∃ l A c, m = some l ∧ e = .returned (.tuple #[.slice A l.length c, .bool true]) ∧ Sl w' w'.heap.size A l.length c l
/-- the sectors of a row, from one on -/
def Sect (w : World) (gs u : Nat) (L : List (List UInt8)) : Prop := (∀ b ∈ L, b.length = 64) ∧ Bs w w.heap.size (some ⟨gs, u * 64, none⟩) L.flatten
theorem flat_at (L : List (List UInt8)) : ∀ k, (∀ b ∈ L, b.length = 64) → k < L.length → (L.flatten.drop (k * 64)).take 64 = L.getD k nought := by
  induction L with
  | nil => intro k _ h; simp at h
  | cons x L ih =>
    intro k h64 hk
    have hx : x.length = 64 := h64 x (by simp)
    cases k with
    | zero => simp [hx]
    | succ k =>
      rw [List.flatten_cons, show (k + 1) * 64 = x.length + k * 64 by omega, List.drop_append, List.drop_eq_nil_of_le (by omega), List.nil_append, Nat.add_sub_cancel_left]
      rw [ih k (fun b hb => h64 b (by simp [hb])) (by simpa using hk)]
      rfl
theorem flat_take (L : List (List UInt8)) (k : Nat) (hk : k < L.length) : (L.take (k + 1)).flatMap (List.drop 16) = (L.take k).flatMap (List.drop 16) ++ (L.getD k nought).drop 16 := by
  rw [List.take_add_one, List.getElem?_eq_getElem hk, List.getD_eq_getElem?_getD, List.getElem?_eq_getElem hk]
  simp only [List.flatMap_append, Option.toList_some, List.flatMap_cons, List.flatMap_nil, List.append_nil, Option.getD_some]
theorem Sect.at {w : World} {gs u : Nat} {L : List (List UInt8)} (h : Sect w gs u L) (k : Nat) (hk : k < L.length) : w.rangeAt gs (u * 64 + k * 64) (bv (L.getD k nought)) := by
  have hf : L.flatten.length = L.length * 64 := flat_len L h.1
  have := h.2.cut (k * 64) 64 (by omega)
  rw [flat_at L k h.1 hk] at this
  exact bs_range (by simpa [Addr.add_lit] using this)
theorem Sect.len64 {w : World} {gs u : Nat} {L : List (List UInt8)} (h : Sect w gs u L) (k : Nat) (hk : k < L.length) : (L.getD k nought).length = 64 := by
  rw [List.getD_eq_getElem?_getD, List.getElem?_eq_getElem hk]
  exact h.1 _ (List.getElem_mem _)
theorem Sect.below {w w' : World} {gs u : Nat} {L : List (List UInt8)} (h : Sect w gs u L) (hb : Below w.heap.size w w') : Sect w' gs u L := ⟨h.1, (h.2.below hb).more hb.size⟩
theorem wpList_append_bs {P : Program} {w : World} {ops : Array Oper} {rest : List Oper} {o : Oper} {a : Act} {Q : Exit → Act → World → Prop} (hgd : Region.wanted o (yielded ops a.tmps) = true) (s x : Operand) (t : TypeId)
    (ho : o.op = .call { callee := .builtin .append, args := #[s, x], argTypes := #[t, t] })
    (base : Nat) (e : TypeId) (i : TypeInfo) (z : Value) (ht : P.underlying t = some (.slice e)) (hi : P.info? e = some i) (hz : i.zero = some z) (hsize : i.size = 1) (hby : i.bytes = 1) (hzs : z.cells.size = 1)
    (v : Value) (n : Nat) (xs : List Value) (hs : a.eval s = v) (hown : w.ownsRow base e 1 v n xs)
    (ad : Addr) (m c : Nat) (l : List UInt8) (hx : a.eval x = .slice (some ad) m c) (hl : l.length = m) (B : Nat) (hr : Bs w B (some ad) l)
    (h63 : n + m ≤ 140737488355328) (hbase : base ≤ w.heap.size)
    (h : ∀ v' w', w'.ownsRow base e 1 v' (n + m) (xs ++ bv l) → w.grownBy w' v.ownBlock → wpList P ops Q rest (a.put o.dst v') w') : wpList P ops Q (o :: rest) a w :=
  wpList_wanted hgd fun _ hK => wp_append_bs s x t ho base e i z ht hi hz hsize hby hzs v n xs hs hown ad m c l hx hl B hr h63 hbase fun v' w' h2 h3 => hK _ _ (h v' w' h2 h3)
theorem own_base {w w' : World} {base : Nat} {e : TypeId} {v : Value} {n : Nat} {xs : List Value} (h : w.ownsRow base e 1 v n xs) (hb : Below w.heap.size w w') : w'.ownsRow base e 1 v n xs := by
  rcases h with ⟨hl, hv | ⟨g, cap, cur, hv, hb2, hg, hr⟩⟩
  · exact ⟨hl, .inl hv⟩
  · exact ⟨hl, .inr ⟨g, cap, cur, hv, hb2, (hb.block g (Array.getElem?_eq_some_iff.1 hg).1).trans hg, hr⟩⟩
set_option maxHeartbeats 8000000 in
theorem claimed_any (gs u c : Nat) (L : List (List UInt8)) (w : World) (hs : Sect w gs u L) (hc : L.length ≤ c) (hm : L.length ≤ 1000) :
    Calls Try.prog 83 #[.slice (some ⟨gs, u * 64, none⟩) L.length c] w fun e w' => Cl w w' (claimedM L) e ∧ Below w.heap.size w w' := by
  have mixed : Try.prog.follows .mixedOrders = true := by kernel_rfl
  cases L with
  | nil =>
    go_enter Try.func83, Try.ntmps83
    go_wp2
    exact bodyPost_ret (v := .tuple #[.slice none 0 0, .bool false]) (by simp [results, Try.results83, go_sem]) rfl ⟨.inl ⟨rfl, rfl⟩, Below.refl _ _⟩
  | cons h t =>
    have hh64 : h.length = 64 := hs.1 h (by simp)
    have hbs : Bs w w.heap.size (some ⟨gs, u * 64 + 16, none⟩) (h.drop 16) := by
      have := hs.2.cut 16 48 (by simp [hh64])
      rw [List.flatten_cons, List.drop_append_of_le_length (by omega), List.take_append_of_le_length (by simp [hh64]), List.take_of_length_le (by simp [hh64])] at this
      simpa [Addr.add_lit] using this
    have HS := Lib.hid hs
    have HH64 := Lib.hid hh64
    have HBS := Lib.hid hbs
    have hN := num4_lt (h.drop 16)
    have hst : (Oct.step (h.drop 16) 0 0 4).1 = (h.drop 16).take 4 := by
      have hl48 : (h.drop 16).length = 48 := by simp [hh64]
      unfold Oct.step
      rw [if_neg (by simp), if_neg (by omega), if_neg (by omega)]
      simp
    have HST := Lib.hid hst
    clear hs hh64 hbs hst
    obtain ⟨N, hNe⟩ : ∃ N, num ((h.drop 16).take 4) = N := ⟨_, rfl⟩
    have HN := Lib.hid hNe
    rw [hNe] at hN
    have hcl : claimedM (h :: t) = if 40000 < N then none else if (h :: t).length < sects N then none else some (((((h :: t).take (sects N)).flatMap (List.drop 16)).drop 4).take N) := by
      rw [← hNe]; rfl
    have HCL := Lib.hid hcl
    clear hNe hcl
    have h1 : ¬ ((t.length : Int) + 1 = 0) := by omega
    go_enter Try.func83, Try.ntmps83
    go_wp2_with fail
    refine (Oct.read_any (some ⟨gs, u * 64 + 16, none⟩) (h.drop 16) 48 48 w (by simp [HH64.out]) (by omega) _ HBS.out (fun e => by cases e)).mono ?_
    rintro e w2 ⟨g2, rfl, hg2, hrd, hb2⟩
    have HB2 := Lib.hid hb2
    have HRD := Lib.hid hrd
    have HG2 := Lib.hid hg2
    clear hb2 hrd hg2
    go_wp2_with fail
    refine (u32_any g2 (h.drop 16) 0 0 w2 HRD.out).mono ?_
    rintro e w3 ⟨rfl, hrd, hg3⟩
    rw [HST.out, HN.out]
    have HB3 : Hid (Below w.heap.size w w3) := Lib.hid (HB2.out.grown hg3 HB2.out.size (fun j hj => by have := HG2.out; have := Option.some.inj hj; omega))
    clear hrd hg3
    by_cases hbig : 40000 < N
    · have h2 : (40000 : Int) < (N : Int) := by omega
      go_wp2
      exact bodyPost_ret (v := .tuple #[.slice none 0 0, .bool false]) (by simp [results, Try.results83, go_sem]) rfl ⟨.inl ⟨by rw [HCL.out, if_pos hbig], rfl⟩, HB3.out⟩
    · have h2 : ¬ (40000 : Int) < (N : Int) := by omega
      have HSC := Lib.hid (sectors_any N w3 (by omega))
      go_wp2_with fail
      refine HSC.out.mono ?_
      rintro e w4 ⟨rfl, hw4⟩
      subst hw4
      have hsm := sects_most N (by omega)
      have hsp := sects_pos N
      obtain ⟨n, hn⟩ : ∃ n, sects N = n := ⟨_, rfl⟩
      rw [hn] at hsm hsp ⊢
      have HNS := Lib.hid hn
      clear hn
      by_cases hlen : t.length + 1 < n
      · have h3 : (t.length : Int) + 1 < (n : Int) := by omega
        go_wp2
        exact bodyPost_ret (v := .tuple #[.slice none 0 0, .bool false]) (by simp [results, Try.results83, go_sem]) rfl ⟨.inl ⟨by rw [HCL.out, if_neg hbig, if_pos (by rw [HNS.out]; exact hlen)], rfl⟩, HB3.out⟩
      · have h3 : ¬ (t.length : Int) + 1 < (n : Int) := by omega
        have h4 : (n : Int) ≤ (c : Int) := by simp only [List.length_cons] at hc; omega
        have HC := Lib.hid hc
        have HM := Lib.hid hm
        have HLN : Hid (n ≤ (h :: t).length) := Lib.hid (by simp only [List.length_cons]; omega)
        obtain ⟨i0, hi0, hz0, hz1, hz2⟩ := info_parts info5
        have HI0 := Lib.hid (And.intro hi0 (And.intro hz0 (And.intro hz1 hz2)))
        clear hc hm hlen hi0 hz0 hz1 hz2
        have hI0 : w3.ownsRow w.heap.size 5 1 (.slice none 0 0) (48 * 0) (bv (((h :: t).take 0).flatMap (List.drop 16))) ∧ Below w.heap.size w w3 := ⟨⟨by simp [bv], .inl ⟨rfl, rfl⟩⟩, HB3.out⟩
        go_wp2_with fail
        clear h1 h2 h3 h4
        go_loopw [6, 30] (fun b i wr => ∃ k : Nat, k ≤ n ∧ i = .int .i64 (k : Int) ∧ Hid (wr.ownsRow w.heap.size 5 1 b (48 * k) (bv (((h :: t).take k).flatMap (List.drop 16))) ∧ Below w.heap.size w wr)) (fun _ i _ => n - (intOf i).toNat)
        case atStart => exact ⟨0, by omega, rfl, hI0⟩
        case round =>
          obtain ⟨k, hk, rfl, HI⟩ := hrel
          clear hI0
          obtain ⟨A, cb, rfl, hfl, hcap, hcm, hnil, hbsA, hbk⟩ := own_bs HI.out.1
          by_cases hlt : k < n
          · have h1 : (k : Int) < (n : Int) := by omega
            have hkl : k < (h :: t).length := Nat.lt_of_lt_of_le hlt HLN.out
            have HFL := Lib.hid ((HS.out.below HI.out.2).at k hkl)
            have HX64 := Lib.hid ((HS.out.below HI.out.2).len64 k hkl)
            have HTK := Lib.hid (flat_take (h :: t) k hkl)
            obtain ⟨x, hx⟩ : ∃ x, (h :: t).getD k nought = x := ⟨_, rfl⟩
            rw [hx] at HFL HX64 HTK
            have HIX : Hid ((Try.prog.info? 89).map (·.size) = some (bv x).length) := (show _ = _ by rw [bv_length, HX64.out]; exact size39)
            have HLX : Hid ((bv x).length = (bv nought).length) := (show _ = _ by rw [bv_length, bv_length, HX64.out]; rfl)
            clear hx hkl
            go_wp2_with (first
              | (with_reducible refine wpList_load_row (op := ⟨some 33, _, _, _, _, _⟩) ?_ 89 (.tmp 32) ?_ gs (u * 64 + k * 64) ?_ (bv x) _ HFL.out Try.underlying89 ?_ HIX.out ?_)
              | (with_reducible refine wpList_store_whole (op := ⟨none, _, _, _, _, _⟩) ?_ 89 (.tmp 8) (.tmp 33) ?_ wr.heap.size (bv x) ?_ ?_ 89 (bv nought) ?hrow2 HLX.out bv_one HIX.out ?_))
            case hrow2 => exact Row.new wr _ (bv nought)
            all_goals try (first | rfl | (simp; done))
            intro w4 hr4 hg4
            have hs4 : wr.heap.size < w4.heap.size := hr4.lt
            have hb4 : Below wr.heap.size wr w4 := ((Below.refl _ _).alloc (Nat.le_refl _) _).grown hg4 (by simp) (fun k hk => by cases hk; exact Nat.le_refl _)
            have HR4 := Lib.hid hr4
            have HB4 := Lib.hid (HI.out.2.trans (hb4.mono HI.out.2.size))
            have HO4 : Hid (w4.ownsRow w.heap.size 5 1 (.slice A (48 * k) cb) (48 * k) (bv (((h :: t).take k).flatMap (List.drop 16)))) := Lib.hid (own_base HI.out.1 hb4)
            have HBX : Hid (Bs w4 w4.heap.size (some ⟨wr.heap.size, 16, none⟩) (x.drop 16)) := Lib.hid (by
              have := (Row.bs HR4.out HR4.out.lt).cut 16 48 (by rw [HX64.out]; decide)
              rw [List.take_of_length_le (by rw [List.length_drop, HX64.out]; decide)] at this
              simpa [Addr.add_lit] using this)
            have HSZ := Lib.hid (And.intro hs4 (And.intro HI.out.2.size (show (x.drop 16).length = 48 by rw [List.length_drop, HX64.out])))
            clear hr4 hg4 hb4 hs4
            go_wp2_with (first
              | (with_reducible refine wpList_append_bs (o := ⟨some 36, _, _, _, _, _⟩) ?_ (.tmp 34) (.tmp 35) 37 ?_ w.heap.size 5 _ (.int .u8 0) Try.underlying37 HI0.out.1 HI0.out.2.1 HI0.out.2.2.1 HI0.out.2.2.2 rfl (.slice A (48 * k) cb) (48 * k) _ ?_ HO4.out ⟨wr.heap.size, 16, none⟩ 48 48 (x.drop 16) ?_ HSZ.out.2.2 _ HBX.out ?h63 HB4.out.size ?_))
            case h63 => omega
            all_goals try (first | rfl | (simp; done))
            intro v5 w5 ho5 hg5
            rw [← bv_append, ← HTK.out, show 48 * k + 48 = 48 * (k + 1) by omega] at ho5
            have HREL : Hid (w5.ownsRow w.heap.size 5 1 v5 (48 * (k + 1)) (bv (((h :: t).take (k + 1)).flatMap (List.drop 16))) ∧ Below w.heap.size w w5) := Lib.hid ⟨ho5, HB4.out.grown hg5 HB4.out.size (fun j hj => hbk j hj)⟩
            clear ho5 hg5
            go_wp2
            go_roundw
            case rel => exact ⟨k + 1, by omega, by go_num, HREL⟩
            case measure => simp [intOf]; omega
          · have hkn : k = n := by omega
            subst hkn
            have h1 : ¬ (k : Int) < (k : Int) := by omega
            have hse : 4 + N ≤ 48 * k ∧ 0 < k := by rw [← HNS.out]; unfold sects; omega
            have g1 : (4 : Int) + (N : Int) ≤ (cb : Int) := by omega
            have g2 : (4 : Int) ≤ 4 + (N : Int) := by omega
            have g3 : IntKind.u32.wrap (4 + (N : Int)) = 4 + N := by rw [IntKind.wrap_u32]; omega
            obtain ⟨bb, oo, rfl, hbb, _⟩ := hbsA (by rw [hfl]; omega)
            have HSL : Hid (Sl wr wr.heap.size (some ⟨bb, oo + 4, none⟩) N (cb - 4) (((((h :: t).take k).flatMap (List.drop 16)).drop 4).take N)) := Lib.hid (by
              refine ⟨by rw [List.length_take, List.length_drop, hfl]; omega, by omega, by omega, fun e => (by cases e), ?_⟩
              have := hbsA.cut 4 N (by rw [hfl]; omega)
              simpa [Addr.add_lit] using this)
            have HRE := Lib.hid (show claimedM (h :: t) = some (((((h :: t).take k).flatMap (List.drop 16)).drop 4).take N) by
              rw [HCL.out, if_neg hbig, HNS.out, if_neg (by have := HLN.out; omega)])
            clear hbsA hfl
            go_wp2
            refine bodyPost_ret (v := .tuple #[.slice (some ⟨bb, oo + 4, none⟩) N (cb - 4), .bool true]) (by simp [results, Try.results83, go_sem]) rfl ⟨.inr ⟨_, some ⟨bb, oo + 4, none⟩, cb - 4, HRE.out, ?_, ?_⟩, HI.out.2⟩
            · rw [HSL.out.len]
            · rw [HSL.out.len]; exact HSL.out
end Go.Proofs.Yteemdjamgbbjhaa.Wl

/-
  What a log tells, and what no log answers.
-/
namespace Go.Proofs.Yteemdjamgbbjhaa.Wl
set_option maxRecDepth 100000
open Go.RowKit Go.Shelf Go.Proofs.Yteemdjamgbbjhaa.Wd Go.Proofs.Yteemdjamgbbjhaa.Dsk Go.Proofs.Yteemdjamgbbjhaa.Oct Go.Proofs.Yteemdjamgbbjhaa.Sum

theorem len_nil (w : World) : Calls Try.prog 23 #[.pointer none] w fun e w' => e = .returned (.int .i64 0) ∧ w = w' := by
  go_enter Try.func23, Try.ntmps23
  go_wp2
  go_ret
  exact ⟨rfl, rfl⟩
theorem turn_nil (w : World) : Calls Try.prog 25 #[.pointer none] w fun e w' => e = .returned (.int .u32 0) ∧ w = w' := by
  go_enter Try.func25, Try.ntmps25
  go_wp2
  go_ret
  exact ⟨rfl, rfl⟩
theorem broken_nil (w : World) : Calls Try.prog 26 #[.pointer none] w fun e w' => e = .returned (.bool false) ∧ w = w' := by
  go_enter Try.func26, Try.ntmps26
  go_wp2
  go_ret
  exact ⟨rfl, rfl⟩
theorem disk_nil (w : World) : Calls Try.prog 27 #[.pointer none] w fun e w' => e = .returned (.pointer none) ∧ w = w' := by
  go_enter Try.func27, Try.ntmps27
  go_wp2
  go_ret
  exact ⟨rfl, rfl⟩
theorem snapshot_nil (w : World) : Calls Try.prog 22 #[.pointer none] w fun e w' => e = .returned (.slice none 0 0) ∧ w = w' := by
  go_enter Try.func22, Try.ntmps22
  go_wp2
  go_ret
  exact ⟨rfl, rfl⟩
theorem turn_log (g dg area t n c used : Nat) (A : Option Addr) (br : Bool) (w : World) (h : Row w g 83 (wcs dg area t A n c used br)) :
    Calls Try.prog 25 #[.pointer (some ⟨g, 0, none⟩)] w fun e w' => e = .returned (.int .u32 (t : Int)) ∧ w = w' := by
  have c2 : w.cell? ⟨g, 2, none⟩ = some (.int .u32 (t : Int)) := h.cell 2
  go_enter Try.func25, Try.ntmps25
  go_wp2
  go_ret
  exact ⟨rfl, rfl⟩
theorem broken_log (g dg area t n c used : Nat) (A : Option Addr) (br : Bool) (w : World) (h : Row w g 83 (wcs dg area t A n c used br)) :
    Calls Try.prog 26 #[.pointer (some ⟨g, 0, none⟩)] w fun e w' => e = .returned (.bool br) ∧ w = w' := by
  have c5 : w.cell? ⟨g, 5, none⟩ = some (.bool br) := h.cell 5
  go_enter Try.func26, Try.ntmps26
  go_wp2
  go_ret
  exact ⟨rfl, rfl⟩
theorem disk_log (g dg area t n c used : Nat) (A : Option Addr) (br : Bool) (w : World) (h : Row w g 83 (wcs dg area t A n c used br)) :
    Calls Try.prog 27 #[.pointer (some ⟨g, 0, none⟩)] w fun e w' => e = .returned (.pointer (some ⟨dg, 0, none⟩)) ∧ w = w' := by
  have c0 : w.cell? ⟨g, 0, none⟩ = some (.pointer (some ⟨dg, 0, none⟩)) := h.cell 0
  go_enter Try.func27, Try.ntmps27
  go_wp2
  go_ret
  exact ⟨rfl, rfl⟩
theorem append_nil (A : Option Addr) (n c : Nat) (w : World) : Calls Try.prog 16 #[.pointer none, .slice A n c] w fun e w' => e = .returned (.int .i64 1) ∧ w = w' := by
  have HR := Lib.hid (refuses_nil A n c w)
  go_enter Try.func16, Try.ntmps16
  go_wp2_with fail
  refine HR.out.mono ?_
  rintro e w2 ⟨rfl, hw⟩
  subst hw
  go_wp2
  go_ret
  exact ⟨rfl, rfl⟩
theorem checkpoint_nil (A : Option Addr) (n c : Nat) (w : World) : Calls Try.prog 17 #[.pointer none, .slice A n c] w fun e w' => e = .returned (.int .i64 1) ∧ w = w' := by
  have HR := Lib.hid (refuses_nil A n c w)
  go_enter Try.func17, Try.ntmps17
  go_wp2_with fail
  refine HR.out.mono ?_
  rintro e w2 ⟨rfl, hw⟩
  subst hw
  go_wp2
  go_ret
  exact ⟨rfl, rfl⟩
end Go.Proofs.Yteemdjamgbbjhaa.Wl

/-
  Is there anything but noughts?
-/
namespace Go.Proofs.Yteemdjamgbbjhaa.Wl
set_option maxRecDepth 100000
open Go.RowKit Go.Shelf Go.Proofs.Yteemdjamgbbjhaa.Wd Go.Proofs.Yteemdjamgbbjhaa.Dsk Go.Proofs.Yteemdjamgbbjhaa.Oct Go.Proofs.Yteemdjamgbbjhaa.Sum

theorem written_any (x : List UInt8) (w : World) (hx : x.length = 64) : Calls Try.prog 85 #[.agg (bv x).toArray] w fun e w' => e = .returned (.bool (decide (x ≠ nought))) ∧ Below w.heap.size w w' := by
  have mixed : Try.prog.follows .mixedOrders = true := by kernel_rfl
  go_enter Try.func85, Try.ntmps85
  have r1 : Row (w.alloc (.cells (bv x).toArray 89)) w.heap.size 89 (bv x) := Row.new w _ _
  have hi : (Try.prog.info? 89).map (·.size) = some (bv x).length := (show _ = _ by rw [bv_length, hx]; exact size39)
  go_wp2_with (first
    | (with_reducible refine wpList_load_row (op := ⟨some 3, _, _, _, _, _⟩) ?_ 89 (.tmp 1) ?_ w.heap.size 0 ?_ (bv x) _ (Row.all r1) Try.underlying89 ?_ hi ?_)
    | (with_reducible refine wpList_neq_blk (o := ⟨some 5, _, _, _, _, _⟩) ?_ (.tmp 3) (.tmp 4) ?_ x nought ?_ ?_ hx rfl ?_))
  all_goals try (first | rfl | (simp; done))
  go_wp2_with fail
  go_ret
  exact ⟨ret_bool (by simp), (Below.refl _ _).alloc (Nat.le_refl _) _⟩
/-- what IndexFunc answers -/
def Ix (w w' : World) (L : List (List UInt8)) (e : Ending) : Prop := (∃ v : Int, e = .returned (.int .i64 v) ∧ (0 ≤ v ↔ ∃ x ∈ L, x ≠ nought)) ∧ Below w.heap.size w w'
set_option maxHeartbeats 4000000 in
theorem index_any (gs u c : Nat) (L : List (List UInt8)) (w : World) (hs : Sect w gs u L) (hc : L.length ≤ c) (hm : L.length ≤ 1000) :
    Calls Try.prog 98 #[.slice (some ⟨gs, u * 64, none⟩) L.length c, .func (.func 85) #[] #[]] w fun e w' => Ix w w' L e := by
  have mixed : Try.prog.follows .mixedOrders = true := by kernel_rfl
  have HS := Lib.hid hs
  clear hs
  go_enter Try.func98, Try.ntmps98
  go_wp2_with fail
  have hI0 : (∀ j, j < 0 → L.getD j nought = nought) ∧ Below w.heap.size w w := ⟨fun j h => by omega, Below.refl _ _⟩
  go_loopw [4, 8] (fun r i wr => ∃ k : Nat, k ≤ L.length ∧ i = .int .i64 (k : Int) ∧ r = .int .i64 0 ∧ Hid ((∀ j, j < k → L.getD j nought = nought) ∧ Below w.heap.size w wr)) (fun _ i _ => L.length - (intOf i).toNat)
  case atStart => exact ⟨0, by omega, rfl, rfl, hI0⟩
  case round =>
    obtain ⟨k, hk, rfl, rfl, HI⟩ := hrel
    clear hI0
    by_cases hlt : k < L.length
    · have h1 : (k : Int) < (L.length : Int) := by omega
      have HFL := Lib.hid ((HS.out.below HI.out.2).at k hlt)
      have HX64 := Lib.hid ((HS.out.below HI.out.2).len64 k hlt)
      have hmem : L.getD k nought ∈ L := by
        rw [List.getD_eq_getElem?_getD, List.getElem?_eq_getElem hlt]
        exact List.getElem_mem _
      obtain ⟨x, hx⟩ : ∃ x, L.getD k nought = x := ⟨_, rfl⟩
      rw [hx] at HFL HX64 hmem
      have HXE := Lib.hid hx
      have HMEM := Lib.hid hmem
      have HIX : Hid ((Try.prog.info? 89).map (·.size) = some (bv x).length) := (show _ = _ by rw [bv_length, HX64.out]; exact size39)
      clear hx hmem
      go_wp2_with (first
        | (with_reducible refine wpList_load_row (op := ⟨some 15, _, _, _, _, _⟩) ?_ 89 (.tmp 14) ?_ gs (u * 64 + k * 64) ?_ (bv x) _ HFL.out Try.underlying89 ?_ HIX.out ?_))
      all_goals try (first | rfl | (simp; done))
      go_wp2_with fail
      refine (written_any x wr HX64.out).mono ?_
      rintro e w2 ⟨rfl, hb2⟩
      have HB2 := Lib.hid (HI.out.2.trans (hb2.mono HI.out.2.size))
      clear hb2
      by_cases hz : x = nought
      · have HJ : Hid ((∀ j, j < k + 1 → L.getD j nought = nought) ∧ Below w.heap.size w w2) := Lib.hid ⟨fun j hj => by
          rcases Nat.lt_succ_iff_lt_or_eq.1 hj with h | h
          · exact HI.out.1 j h
          · rw [h, HXE.out, hz], HB2.out⟩
        rw [show decide (x ≠ nought) = false by simp [hz]]
        clear hz
        go_wp2
        go_roundw
        case rel => exact ⟨k + 1, by omega, by go_num, rfl, HJ⟩
        case measure => simp [intOf]; omega
      · have HZ := Lib.hid hz
        rw [show decide (x ≠ nought) = true by simp [hz]]
        clear hz
        go_wp2
        go_ret
        exact ⟨⟨_, rfl, ⟨fun _ => ⟨x, HMEM.out, HZ.out⟩, fun _ => by omega⟩⟩, HB2.out⟩
    · have hkl : k = L.length := by omega
      have h1 : ¬ (k : Int) < (L.length : Int) := by omega
      go_wp2
      go_ret
      refine ⟨⟨_, rfl, ⟨fun h => absurd h (by decide), fun ⟨x, hx, hz⟩ => ?_⟩⟩, HI.out.2⟩
      obtain ⟨j, hj, he⟩ := List.mem_iff_getElem.1 hx
      have := HI.out.1 j (by omega)
      rw [List.getD_eq_getElem?_getD, List.getElem?_eq_getElem hj] at this
      exact absurd (he.symm.trans this) hz
theorem contains_any (gs u c : Nat) (L : List (List UInt8)) (w : World) (hs : Sect w gs u L) (hc : L.length ≤ c) (hm : L.length ≤ 1000) :
    Calls Try.prog 84 #[.slice (some ⟨gs, u * 64, none⟩) L.length c, .func (.func 85) #[] #[]] w fun e w' => (∃ r, e = .returned (.bool r) ∧ (r = true ↔ ∃ x ∈ L, x ≠ nought)) ∧ Below w.heap.size w w' := by
  have mixed : Try.prog.follows .mixedOrders = true := by kernel_rfl
  have HX := Lib.hid (index_any gs u c L w hs hc hm)
  go_enter Try.func84, Try.ntmps84
  go_wp2_with fail
  refine HX.out.mono ?_
  rintro e w2 ⟨⟨v, rfl, hv⟩, hb⟩
  go_wp2
  go_ret
  exact ⟨⟨decide (0 ≤ v), ret_bool (by simp only [decide_eq_decide]; exact (by simpa using hv.symm)), by simpa using hv⟩, hb⟩
end Go.Proofs.Yteemdjamgbbjhaa.Wl

/-
  Marks of loops over functions, one behind the other, are taken.
-/
namespace Go.Proofs.Yteemdjamgbbjhaa.Wl
set_option maxRecDepth 100000
open Go.RowKit Go.Shelf Go.Proofs.Yteemdjamgbbjhaa.Wd Go.Proofs.Yteemdjamgbbjhaa.Dsk Go.Proofs.Yteemdjamgbbjhaa.Oct Go.Proofs.Yteemdjamgbbjhaa.Sum

/-- the marks that loops over functions left, the newest ahead -/
def marksOf (Ds : List Nat) : List Deferred := Ds.map fun D => { target := .collected D, args := #[] }
structure Mks (base : Nat) (Ds : List Nat) (W : World) : Prop where
  nodup : Ds.Nodup
  open_ : ∀ D ∈ Ds, base ≤ D ∧ W.heap[D]? = some (.deferred (some []))
theorem Mks.nil (base : Nat) (W : World) : Mks base [] W := ⟨List.nodup_nil, fun _ h => by simp at h⟩
theorem Mks.kept {base : Nat} {Ds : List Nat} {W W' : World} (h : Mks base Ds W) (hk : ∀ k o, W.heap[k]? = some o → o.isCells = false → base ≤ k → W'.heap[k]? = some o) : Mks base Ds W' :=
  ⟨h.nodup, fun D hD => ⟨(h.open_ D hD).1, hk D _ (h.open_ D hD).2 rfl (h.open_ D hD).1⟩⟩
theorem Mks.cons {base D : Nat} {Ds : List Nat} {W : World} (h : Mks base Ds W) (hb : base ≤ D) (hD : W.heap[D]? = some (.deferred (some []))) (hn : D ∉ Ds) : Mks base (D :: Ds) W :=
  ⟨List.nodup_cons.2 ⟨hn, h.nodup⟩, fun E hE => by
    rcases List.mem_cons.1 hE with rfl | hE
    · exact ⟨hb, hD⟩
    · exact h.open_ E hE⟩
theorem leaves_marks {F : Fence} {n : Nat} {P : Program} {fn : Func} {tmps : Array Value} {R : Ending → World → Prop} {base : Nat} {J : World → Prop}
    (hJ : ∀ (X Y : World) (row : Option Nat), J X → X.grownBy Y row → (∀ r, row = some r → base ≤ r ∧ ∃ o : Obj, X.heap[r]? = some o ∧ o.isCells = false) → J Y)
    (hend : ∀ W, J W → ∃ v, (results fn tmps).run P W = .ok v W ∧ R (.returned v) W) :
    ∀ (Ds : List Nat) (W : World), Mks base Ds W → J W → LeavesInM F n P fn tmps R (marksOf Ds) .returning W := by
  intro Ds
  induction Ds with
  | nil => intro W _ hW; exact hend W hW
  | cons D Ds ih =>
    intro W hM hW
    obtain ⟨hb, hK⟩ := hM.open_ D (by simp)
    refine ⟨by simp, .inl ⟨D, _, rfl, run_takeDeferred hK, ?_⟩⟩
    have hnd := List.nodup_cons.1 hM.nodup
    refine ih _ ⟨hnd.2, fun E hE => ⟨(hM.open_ E (by simp [hE])).1, ?_⟩⟩ (hJ _ _ _ hW (grownBy_putObj' W D (.deferred none)) (fun r e => by cases e; exact ⟨hb, _, hK, rfl⟩))
    have hne : E ≠ D := fun e => hnd.1 (e ▸ hE)
    exact (World.putObj_heap_other hne).trans (hM.open_ E (by simp [hE])).2
end Go.Proofs.Yteemdjamgbbjhaa.Wl

/-
  No disk; the snapshot; the frames as they stand.
-/
namespace Go.Proofs.Yteemdjamgbbjhaa.Wl
set_option maxRecDepth 100000
open Go.RowKit Go.Shelf Go.Proofs.Yteemdjamgbbjhaa.Wd Go.Proofs.Yteemdjamgbbjhaa.Dsk Go.Proofs.Yteemdjamgbbjhaa.Oct Go.Proofs.Yteemdjamgbbjhaa.Sum

theorem open_nil (w : World) : Calls Try.prog 20 #[.pointer none] w fun e w' => e = .returned (.tuple #[.pointer none, .int .i64 1]) ∧ Below w.heap.size w w' := by
  have mixed : Try.prog.follows .mixedOrders = true := by kernel_rfl
  go_enter Try.func20, Try.ntmps20
  go_wp2_with fail
  exact bodyPost_ret (v := .tuple #[.pointer none, .int .i64 1]) (by simp [results, Try.results20, go_sem]) rfl ⟨rfl, Below.refl _ _⟩
theorem format_nil (area : Int) (w : World) : Calls Try.prog 13 #[.pointer none, .int .i64 area] w fun e w' => e = .returned (.tuple #[.pointer none, .int .i64 1]) ∧ Below w.heap.size w w' := by
  have mixed : Try.prog.follows .mixedOrders = true := by kernel_rfl
  go_enter Try.func13, Try.ntmps13
  go_wp2_with fail
  exact bodyPost_ret (v := .tuple #[.pointer none, .int .i64 1]) (by simp [results, Try.results13, go_sem]) rfl ⟨rfl, Below.refl _ _⟩
theorem snapshot_log (g dg area t n c used : Nat) (A : Option Addr) (br : Bool) (xs : List Value) (A0 : Option Addr) (m c0 : Nat) (b : List UInt8) (w : World) (h : Row w g 83 (wcs dg area t A (n + 1) c used br))
    (ho : w.ownsRow 0 37 1 (.slice A (n + 1) c) (n + 1) xs) (hx : xs[0]? = some (.slice A0 m c0)) (hb : By w A0 m c0 b) (hm : m ≤ 40000) :
    Calls Try.prog 22 #[.pointer (some ⟨g, 0, none⟩)] w (MadeSl w m b) := by
  have c3 : w.cell? ⟨g, 3, none⟩ = some (.slice A (n + 1) c) := h.cell 3
  obtain ⟨gx, rfl, hc0⟩ : ∃ gx, A = some ⟨gx, 0, none⟩ ∧ w.cell? ⟨gx, 0, none⟩ = some (.slice A0 m c0) := by
    rcases ho with ⟨hl, hv | ⟨gx, cap, cur, hv, _, hg, h1, h2, h3, h4⟩⟩
    · cases hv.2
    · cases hv
      refine ⟨gx, rfl, ?_⟩
      rw [cell_of_row w gx 0 cur _ (0, 0) hg]
      rw [← h4, List.getElem?_take_of_lt (by omega)] at hx
      simpa using hx
  have HC := Lib.hid (clone_any A0 b c0 m w hb.sl (by omega))
  go_enter Try.func22, Try.ntmps22
  go_wp2_with fail
  refine HC.out.mono ?_
  rintro e w2 ⟨A2, c2, rfl, h1, h2, h3⟩
  go_wp2
  go_ret
  exact ⟨A2, c2, rfl, h1, h2, h3⟩
end Go.Proofs.Yteemdjamgbbjhaa.Wl

/-
  The frames that chainIn holds so far.
-/
namespace Go.Proofs.Yteemdjamgbbjhaa.Wl
set_option maxRecDepth 100000
open Go.RowKit Go.Shelf Go.Proofs.Yteemdjamgbbjhaa.Wd Go.Proofs.Yteemdjamgbbjhaa.Dsk Go.Proofs.Yteemdjamgbbjhaa.Oct Go.Proofs.Yteemdjamgbbjhaa.Sum

/-- the frames of a chain: a row of slices, each of bytes of its own, all in blocks from one on -/
def Frs (W : World) (base : Nat) (A : Option Addr) (cc : Nat) (fs : List (List UInt8)) : Prop :=
  ∃ xs, W.ownsRow 0 37 1 (.slice A fs.length cc) fs.length xs ∧ (∀ k, (Value.slice A fs.length cc).ownBlock = some k → base ≤ k) ∧
    ∀ i, i < fs.length → ∃ Ai ni ci, xs[i]? = some (.slice Ai ni ci) ∧ By W Ai ni ci (fs.getD i []) ∧ ni ≤ 40000 ∧ ∀ k, (Value.slice Ai ni ci).ownBlock = some k → base ≤ k
theorem Frs.keepR {W W' : World} {base cc : Nat} {A : Option Addr} {fs : List (List UInt8)} (h : Frs W base A cc fs) (hk : KeepR W W') : Frs W' base A cc fs := by
  obtain ⟨xs, h1, h2, h3⟩ := h
  refine ⟨xs, own_keepR h1 (.inl rfl) hk, h2, fun i hi => ?_⟩
  obtain ⟨Ai, ni, ci, h4, h5, h6, h7⟩ := h3 i hi
  exact ⟨Ai, ni, ci, h4, own_keepR h5 (.inr rfl) hk, h6, h7⟩
theorem keepR_noncells {W W' : World} {row : Option Nat} (hg : W.grownBy W' row) (hr : ∀ r, row = some r → ∃ o : Obj, W.heap[r]? = some o ∧ o.isCells = false) : KeepR W W' := fun _ _ _ _ hk => row_kept hk hg hr
/-- what chainIn's rounds hold -/
structure CI (w : World) (t gs u c : Nat) (L fs : List (List UInt8)) (W : World) : Prop where
  b3 : Row W w.heap.size 72 [.slice (some ⟨gs, u * 64, none⟩) L.length c]
  b4 : Row W (w.heap.size + 1) 81 (ccs 0 none 0 0 0)
  b5 : ∃ A cc, Row W (w.heap.size + 2) 81 (ccs t A fs.length cc (usedM fs)) ∧ Frs W w.heap.size A cc fs
  below : Below w.heap.size w W
  sz : w.heap.size + 3 ≤ W.heap.size
theorem CI.own {w : World} {t gs u c : Nat} {L fs : List (List UInt8)} {W W' : World} {row : Option Nat} (h : CI w t gs u c L fs W) (hg : W.grownBy W' row) (hr : ∀ r, row = some r → w.heap.size ≤ r ∧ ∃ o : Obj, W.heap[r]? = some o ∧ o.isCells = false) : CI w t gs u c L fs W' := by
  obtain ⟨b3, b4, ⟨A, cc, b5, hf⟩, hb, sz⟩ := h
  have hr' := fun r e => (hr r e).2
  exact ⟨row_kept b3 hg hr', row_kept b4 hg hr', ⟨A, cc, row_kept b5 hg hr', hf.keepR (keepR_noncells hg hr')⟩, hb.grown hg hb.size (fun r e => (hr r e).1), Nat.le_trans sz hg.size⟩
theorem CI.more {w : World} {t gs u c : Nat} {L fs : List (List UInt8)} {W W' : World} (h : CI w t gs u c L fs W) (hb : Below W.heap.size W W') : CI w t gs u c L fs W' := by
  obtain ⟨b3, b4, ⟨A, cc, b5, hf⟩, hb0, sz⟩ := h
  exact ⟨b3.below hb b3.lt, b4.below hb b4.lt, ⟨A, cc, b5.below hb b5.lt, hf.keepR (keepR_below hb)⟩, hb0.trans (hb.mono hb0.size), Nat.le_trans sz hb.size⟩
theorem Frs.nil (W : World) (base : Nat) : Frs W base none 0 [] := by
  refine ⟨[], (show W.ownsRow 0 37 1 (.slice none 0 0) 0 [] from ⟨rfl, .inl ⟨rfl, rfl⟩⟩), ?_, ?_⟩
  · intro k h
    cases h
  · intro i hi
    exact absurd hi (by simp)
theorem usedM_snoc (fs : List (List UInt8)) (b : List UInt8) : usedM (fs ++ [b]) = usedM fs + sects b.length := by simp [usedM]
/-- one frame more -/
theorem Frs.snoc {W W' : World} {base cc cc' m c2 : Nat} {A A' A2 : Option Addr} {fs : List (List UInt8)} {b : List UInt8} {xs : List Value} (hbase : base ≤ W.heap.size)
    (hfs : ∀ i, i < fs.length → ∃ Ai ni ci, xs[i]? = some (.slice Ai ni ci) ∧ By W Ai ni ci (fs.getD i []) ∧ ni ≤ 40000 ∧ ∀ k, (Value.slice Ai ni ci).ownBlock = some k → base ≤ k)
    (hA : ∀ k, (Value.slice A fs.length cc).ownBlock = some k → base ≤ k) (hxl : xs.length = fs.length)
    (hb : By W A2 m c2 b) (hm : m ≤ 40000) (hb2 : ∀ k, (Value.slice A2 m c2).ownBlock = some k → base ≤ k)
    (ho : W'.ownsRow 0 37 1 (.slice A' (fs.length + 1) cc') (fs.length + 1) (xs ++ [.slice A2 m c2])) (hp : ∀ k, (Value.slice A' (fs.length + 1) cc').ownBlock = some k → (Value.slice A fs.length cc).ownBlock = some k ∨ W.heap.size ≤ k)
    (hk : ∀ k cs, Row W k 5 cs → Row W' k 5 cs) : Frs W' base A' cc' (fs ++ [b]) := by
  have hby : ∀ {Ai : Option Addr} {ni ci : Nat} {l : List UInt8}, By W Ai ni ci l → By W' Ai ni ci l := by
    intro Ai ni ci l h
    rcases h with ⟨hl, hv | ⟨g, cap, cur, hv, hb, hg, hr⟩⟩
    · exact ⟨hl, .inl hv⟩
    · have h0 : Row W g 5 cur.toList := by show _ = _; simpa using hg
      have h1 : W'.heap[g]? = _ := hk g _ h0
      exact ⟨hl, .inr ⟨g, cap, cur, hv, hb, by simpa using h1, hr⟩⟩
  refine ⟨xs ++ [.slice A2 m c2], by simpa using ho, fun k h => ?_, fun i hi => ?_⟩
  · rw [List.length_append] at h
    rcases hp k h with h | h
    · exact hA k h
    · omega
  · rw [List.length_append] at hi
    by_cases hlt : i < fs.length
    · obtain ⟨Ai, ni, ci, h4, h5, h6, h7⟩ := hfs i hlt
      refine ⟨Ai, ni, ci, ?_, ?_, h6, h7⟩
      · rw [List.getElem?_append_left (by omega)]; exact h4
      · have e : (fs ++ [b]).getD i [] = fs.getD i [] := by rw [List.getD_eq_getElem?_getD, List.getD_eq_getElem?_getD, List.getElem?_append_left hlt]
        rw [e]
        exact hby h5
    · have hie : i = fs.length := by simp at hi; omega
      subst hie
      refine ⟨A2, m, c2, ?_, ?_, hm, hb2⟩
      · rw [List.getElem?_append_right (by omega), hxl]; simp
      · have e : (fs ++ [b]).getD fs.length [] = b := by rw [List.getD_eq_getElem?_getD, List.getElem?_append_right (Nat.le_refl _)]; simp
        rw [e]
        exact hby hb
end Go.Proofs.Yteemdjamgbbjhaa.Wl

/-
  The parts as a sequence whose elements are known.
-/
namespace Go.Proofs.Yteemdjamgbbjhaa.Wl
set_option maxRecDepth 100000
open Go.RowKit Go.Shelf Go.Proofs.Yteemdjamgbbjhaa.Wd Go.Proofs.Yteemdjamgbbjhaa.Dsk Go.Proofs.Yteemdjamgbbjhaa.Oct Go.Proofs.Yteemdjamgbbjhaa.Sum

attribute [local go_sem] Oper.semAt_some

set_option maxHeartbeats 4000000 in
theorem parts_in_s (l Bf t k nn m c : Nat) (A : Option Addr) (b : List UInt8) (hnn : 1 ≤ nn) (hb : b.length ≤ 40000) (ht : t < 4294967296) (hk : k < 4294967296) (K0 : Nat → Prop) (J Jx : List IB → World → Prop) (W : World) (hJ : AbidesFrom W.heap.size J)
    (hY : ∀ pre x W1, J pre W1 → pre.length < sects b.length → (pre ++ [x]).map (·.1) <+: pairsM t k b → YieldAt Fence.wide (nn - 1) Try.prog l (encI x) W1 fun e W' =>
      (e = .returned (.bool true) ∧ J (pre ++ [x]) W' ∧ KT K0 W1 W') ∨ (e = .returned (.bool false) ∧ Jx (pre ++ [x]) W'))
    (hf : Row W Bf 101 (fcs t k A m c)) (hs : Sl W W.heap.size A m c b) (h0 : J [] W) :
    CallsIn Fence.wide nn Try.prog 78 #[.func (.yield l) #[] #[], .pointer (some ⟨Bf, 0, none⟩)] W fun e W' => (∃ v, e = .returned v) ∧
      ((∃ xs : List IB, xs.map (·.1) = pairsM t k b ∧ J xs W') ∨ (∃ pre : List IB, pre.map (·.1) <+: pairsM t k b ∧ Jx pre W')) := by
  obtain rfl : m = b.length := hs.len.symm
  have mixed : Try.prog.follows .mixedOrders = true := by kernel_rfl
  have HY := Lib.hid hY
  have HJ := Lib.hid hJ
  have RF := Lib.hid hf
  have HS := Lib.hid hs
  have hw32 : IntKind.u32.wrap (b.length : Int) = b.length := by rw [IntKind.wrap_u32]; omega
  have c0 : W.cell? ⟨Bf, 2, none⟩ = some (.slice A b.length c) := hf.cell 2
  clear hY hJ hf hs
  refine callsIn_of_wp Try.func78 rfl trivial ?_ rfl
  simp only [Try.ntmps78, List.size_toArray, List.length_cons, List.length_nil, Nat.reduceAdd, Nat.reduceSub, Array.replicate_succ, Array.replicate_zero, List.push_toArray, List.append_toArray, List.nil_append, List.cons_append]
  refine wpIn_wide.2 ?_
  go_wp2_with fail
  refine (sectors_any b.length W hb).mono ?_
  rintro e w1 ⟨rfl, rfl⟩
  go_wp2_with fail
  refine wp_region_held_drew (S := (fun w' => Row w' Bf 101 (fcs t k A b.length c))) (by kernel_rfl) RF.out (fun hHeld => ?_)
  refine wpAnyH_take (i := 0) (oi := ⟨some 11, _, _, _, _, _⟩) (v := ?v0) rfl (by kernel_rfl) (by kernel_rfl) (by kernel_rfl) (fun _ _ _ h => h) (Or.inl ⟨by rfl, ?y0⟩) hHeld ?r0
  case y0 =>
    rintro w' hSw
    go_simp
    try with_reducible rfl
  try simp only [Act.put, List.setIfInBounds_toArray, List.set_cons_zero, List.set_cons_succ]
  refine wpAnyH_take (i := 1) (oi := ⟨some 12, _, _, _, _, _⟩) (v := ?v1) rfl (by kernel_rfl) (by kernel_rfl) (by kernel_rfl) (fun _ _ _ h => h) (Or.inl ⟨by rfl, ?y1⟩) hHeld ?r1
  case y1 =>
    rintro w' hSw
    have c0 : w'.cell? ⟨Bf, 2, none⟩ = some (.slice A b.length c) := hSw.cell 2
    go_simp
    try with_reducible rfl
  try simp only [Act.put, List.setIfInBounds_toArray, List.set_cons_zero, List.set_cons_succ]
  refine wpAnyH_take (i := 2) (oi := ⟨some 13, _, _, _, _, _⟩) (v := ?v2) rfl (by kernel_rfl) (by kernel_rfl) (by kernel_rfl) (fun _ _ _ h => h) (Or.inl ⟨by rfl, ?y2⟩) hHeld ?r2
  case y2 =>
    rintro w' hSw
    go_simp
    try with_reducible rfl
  try simp only [Act.put, List.setIfInBounds_toArray, List.set_cons_zero, List.set_cons_succ]
  refine wpAnyH_take (i := 3) (oi := ⟨some 14, _, _, _, _, _⟩) (v := ?v3) rfl (by kernel_rfl) (by kernel_rfl) (by kernel_rfl) (fun _ _ _ h => h) (Or.inl ⟨by rfl, ?y3⟩) hHeld ?r3
  case y3 =>
    rintro w' hSw
    go_simp
    try with_reducible rfl
  try simp only [Act.put, List.setIfInBounds_toArray, List.set_cons_zero, List.set_cons_succ]
  refine wpAnyH_take (i := 5) (oi := ⟨some 16, _, _, _, _, _⟩) (v := ?v5) rfl (by kernel_rfl) (by kernel_rfl) (by kernel_rfl) (fun _ _ _ h => h) (Or.inl ⟨by rfl, ?y5⟩) hHeld ?r5
  case y5 =>
    rintro w' hSw
    go_simp
    try with_reducible rfl
  try simp only [Act.put, List.setIfInBounds_toArray, List.set_cons_zero, List.set_cons_succ]
  refine wpAnyH_take (i := 6) (oi := ⟨some 17, _, _, _, _, _⟩) (v := ?v6) rfl (by kernel_rfl) (by kernel_rfl) (by kernel_rfl) (fun _ _ _ h => h) (Or.inl ⟨by rfl, ?y6⟩) hHeld ?r6
  case y6 =>
    rintro w' hSw
    have c0 : w'.cell? ⟨Bf, 2, none⟩ = some (.slice A b.length c) := hSw.cell 2
    go_simp
    try with_reducible rfl
  try simp only [Act.put, List.setIfInBounds_toArray, List.set_cons_zero, List.set_cons_succ]
  refine wpAnyH_ready (rs := [4]) (by kernel_rfl) (by simp) ?_
  refine AllReadyH.cons rfl (fun K hK => ?_) AllReadyH.nil
  go_simp
  refine (put32_any none [] 0 0 b.length W.drew rfl (by omega) (by omega) (Bs.nil _ _ _)).mono ?_
  rintro e w2 ⟨g2, n2, rfl, hl2, hg2, hr2, hb2⟩
  replace hb2 : Below W.heap.size W w2 := undrew hb2
  have hn2 : n2 = 4 := by have := hl2.out; simp [hi_length] at this; omega
  subst hn2
  have R2 := Lib.hid (RF.out.below hb2 RF.out.lt)
  have HS2 := Lib.hid (HS.out.below hb2)
  have HB2 := Lib.hid hb2
  have HG2 := Lib.hid hr2
  have HGB := Lib.hid (show W.heap.size ≤ g2 from hg2)
  replace hg2 : W.heap.size ≤ g2 := hg2
  clear hb2 hr2 hg2 hl2
  refine hK _ _ R2.out (fun _ => ?_)
  clear hK K
  try simp only [Act.put, List.setIfInBounds_toArray, List.set_cons_zero, List.set_cons_succ]
  refine wpAnyH_ready (rs := [7]) (by kernel_rfl) (by simp) ?_
  refine AllReadyH.cons rfl (fun K hK => ?_) AllReadyH.nil
  obtain ⟨i0, hi0, hz0, hz1, hz2⟩ := info_parts info5
  have hown2 : w2.ownsRow W.heap.size 5 1 (.slice (some ⟨g2, 0, none⟩) 4 4) 4 (bv ([] ++ hi 4 b.length)) := Row.own HG2.out HGB.out (by rw [bv_length]; simp [hi_length]) (by unfold maxLen; omega)
  rw [if_pos (by rfl)]
  refine wp_append_any (.tmp 15) (.tmp 17) 37 rfl W.heap.size 5 i0 (.int .u8 0) Try.underlying37 hi0 hz0 hz1 hz2 rfl (.slice (some ⟨g2, 0, none⟩) 4 4) 4 _ rfl hown2 A b.length c b rfl rfl W.heap.size HS2.out.bs HS2.out.nil (by omega) HB2.out.size ?_
  clear hown2
  intro v3 w3 hown3 hg3
  have hall : bv ([] ++ hi 4 b.length) ++ bv b = bv (allB b) := by rw [← bv_append]; rfl
  rw [hall] at hown3
  have R3 := Lib.hid (R2.out.grown hg3 (by simp [Value.ownBlock]; have h1 := HGB.out; have h2 := RF.out.lt; omega))
  have HB3 := Lib.hid (HB2.out.grown hg3 HB2.out.size (fun j hj => by simp [Value.ownBlock] at hj; have := HGB.out; omega))
  obtain ⟨gr, cap, cur, rfl, hgr, hcur, hcn, hcm, hcs, htk⟩ : ∃ g cap cur, v3 = .slice (some ⟨g, 0, none⟩) (4 + b.length) cap ∧ W.heap.size ≤ g ∧ w3.heap[g]? = some (.cells cur 5 (0, 0)) ∧ 4 + b.length ≤ cap ∧ cap ≤ maxLen ∧ cur.size = cap * 1 ∧ cur.toList.take ((4 + b.length) * 1) = bv (allB b) := by
    rcases hown3 with ⟨_, ⟨hv, h0⟩ | h⟩
    · omega
    · exact h
  have RR := Lib.hid (show Row w3 gr 5 cur.toList by show _ = _; simpa using hcur)
  have HT := Lib.hid (show cur.toList.take (4 + b.length) = bv (allB b) by simpa using htk)
  have HC := Lib.hid (show cur.toList.length = cap by simpa using hcs)
  clear hcur hcs htk hown3 hg3 hall
  refine hK _ _ R3.out (fun _ => ?_)
  clear hK K
  try simp only [Act.put, List.setIfInBounds_toArray, List.set_cons_zero, List.set_cons_succ]
  refine wpAnyH_take (i := 8) (oi := ⟨some 4, _, _, _, _, _⟩) (v := ?v8) rfl (by kernel_rfl) (by kernel_rfl) (by kernel_rfl) (fun _ _ _ h => h) (Or.inl ⟨by rfl, ?y8⟩) R3.out ?r8
  case y8 =>
    rintro w' hSw
    go_simp
    try with_reducible rfl
  try simp only [Act.put, List.setIfInBounds_toArray, List.set_cons_zero, List.set_cons_succ]
  refine wpAnyH_done (by kernel_rfl) ?_ _
  go_wp2_with fail
  refine (wpIn_wide (n := nn)).1 ?_
  have HJ3 := Lib.hid (HJ.out _ _ _ none h0 (below_grown HB3.out) (fun r e => by cases e))
  gi_loopw [4, 20] (fun s i wr => ∃ r : Nat, r ≤ sects b.length ∧ i = .int .i64 (r : Int) ∧ Hid (r < sects b.length → s = .slice (some ⟨gr, 48 * r, none⟩) (4 + b.length - 48 * r) (cap - 48 * r)) ∧ J (upto (gI (partM t k b)) r) wr ∧ Hid (Row wr Bf 101 (fcs t k A b.length c) ∧ Row wr gr 5 cur.toList)) (fun _ i _ => sects b.length - (intOf i).toNat)
  case atStart => exact ⟨0, Nat.zero_le _, rfl, (fun _ => by simp), HJ3.out, R3.out, RR.out⟩
  case round =>
    obtain ⟨r, hrn, rfl, hsl, hJs, HK⟩ := hrel
    by_cases hlt : r < sects b.length
    · obtain rfl := hsl.out hlt
      clear hsl
      have h1 : (r : Int) < (sects b.length : Int) := by omega
      have h48 : 48 * r < 4 + b.length := by unfold sects at hlt; omega
      obtain ⟨o1, ho1⟩ : ∃ o1, 48 * r = o1 := ⟨_, rfl⟩
      obtain ⟨n1, hn1⟩ : ∃ n1, 4 + b.length - o1 = n1 := ⟨_, rfl⟩
      obtain ⟨c1, hc1⟩ : ∃ c1, cap - o1 = c1 := ⟨_, rfl⟩
      obtain ⟨x, hx⟩ : ∃ x, ((allB b).drop o1).take 48 = x := ⟨_, rfl⟩
      have hxl : x.length = min n1 48 := by rw [← hx, List.length_take, List.length_drop, allB_len]; omega
      obtain ⟨q, hq⟩ : ∃ q, x.length = q := ⟨_, rfl⟩
      have hq1 : q ≤ n1 := by omega
      have hq48 : q ≤ 48 := by omega
      have hqn : q < 48 → q = n1 := fun h => by omega
      have hnc : n1 ≤ c1 := by omega
      rw [ho1, hn1, hc1]
      have HSRC : Hid (∀ w', Row w' gr 5 cur.toList → ∀ j u, (bv x)[j]? = some u → w'.cell? ((⟨gr, o1, none⟩ : Addr).add j) = some u) := Lib.hid (fun w' hr => by rw [← hx]; exact src_bytes hr HT.out o1)
      have HX := Lib.hid hx
      have HO1 := Lib.hid ho1
      have HN1 := Lib.hid hn1
      have HC1 := Lib.hid hc1
      have HQ := Lib.hid hq
      have HXL := Lib.hid hxl
      have HQN := Lib.hid hqn
      clear hx ho1 hn1 hc1 hq hxl hqn
      gi_wp2_with fail
      refine nwui fun wa hwa => ?_
      have hra : Row wa wr.heap.size 131 (bv (List.replicate 48 0)) := by rw [← hwa]; exact Row.new wr _ (bv (List.replicate 48 0))
      have hba : Below wr.heap.size wr wa := by rw [← hwa]; exact (Below.refl _ _).alloc (Nat.le_refl _) _
      have hrun := run_copy_row (P := Try.prog) (w := wa) 37 37 3 5 wr.heap.size 0 48 48 ⟨gr, o1, none⟩ n1 c1 (bv (List.replicate 48 0)).toArray 131 (bv x) Try.underlying37 size5 hra ((bv_length _).trans HXL.out) (HSRC.out _ (HK.out.2.below hba HK.out.2.lt)) (by rw [bv_length, HQ.out, List.size_toArray, bv_length, List.length_replicate]; omega) bv_one
      rw [bv_length, HQ.out] at hrun
      rw [hrun]
      have hcells : (List.take 0 (bv (List.replicate 48 0)).toArray.toList ++ bv x ++ List.drop (0 + q) (bv (List.replicate 48 0)).toArray.toList) = bv (bodyB (allB b) r) := by
        unfold bodyB fill48
        rw [HO1.out, HX.out, bv_append, List.take_zero, List.nil_append, Nat.zero_add]
        congr 1
        show List.drop q (bv (List.replicate 48 0)) = _
        rw [← bv_zero, ← bv_zero, List.drop_replicate]
        congr 1
        have := HXL.out
        have h5 := HQ.out
        rw [List.length_drop, allB_len]
        have := HN1.out
        omega
      rw [hcells]
      obtain ⟨wc, hwc⟩ : ∃ wc, wa.setRow wr.heap.size (bv (bodyB (allB b) r)).toArray = wc := ⟨_, rfl⟩
      have hrc : Row wc wr.heap.size 131 (bv (bodyB (allB b) r)) := by
        rw [← hwc]
        exact setRow_heap wa wr.heap.size _ _ _ _ hra
      have hbc : Below wr.heap.size wr wc := hba.grown (by rw [← hwc]; exact grown_setRow _ _ _) hba.size (fun k hk => by cases hk; exact Nat.le_refl _)
      rw [hwc]
      have HRC := Lib.hid hrc
      have HBC := Lib.hid hbc
      have HF := Lib.hid (HK.out.1.below hbc HK.out.1.lt)
      have HG := Lib.hid (HK.out.2.below hbc HK.out.2.lt)
      clear hrun hcells hwc hrc hbc hra hba hwa HK HSRC
      have HI := Lib.hid (show (Try.prog.info? 101).map (·.size) = some (fcs t k A b.length c).length from size101)
      have HIB := Lib.hid (show (Try.prog.info? 131).map (·.size) = some (bv (bodyB (allB b) r)).length by rw [bv_length, bodyB_len]; exact size131)
      have hJc : J (upto (gI (partM t k b)) r) wc := HJ.out _ _ _ none hJs (below_grown HBC.out) (fun r e => by cases e)
      by_cases hcq : c1 = q
      · -- the row's end
        gi_wp2_with (first
          | (with_reducible refine wpListIn_load_mid (op := ⟨some 30, _, _, _, _, _⟩) ?_ 101 (.tmp 1) ?_ Bf 0 ?_ (fcs t k A b.length c) _ (Row.all HF.out) Try.underlying101 ?_ HI.out ?_)
          | (with_reducible refine wpListIn_load_mid (op := ⟨some 33, _, _, _, _, _⟩) ?_ 131 (.tmp 6) ?_ wr.heap.size 0 ?_ (bv (bodyB (allB b) r)) _ (Row.all HRC.out) Try.underlying131 ?_ HIB.out ?_))
        all_goals try (first | rfl | (simp; done))
        gi_wp2_with fail
        refine ⟨trivial, callsIn_wide.2 ?_⟩
        refine (part_any t k A b.length c r (sects b.length) (bodyB (allB b) r) wc ht hk (by have := sects_most _ hb; omega) (by have := sects_most _ hb; omega) (bodyB_len _ _)).mono ?_
        rintro e wd ⟨rfl, hbd⟩
        have hJd : J (upto (gI (partM t k b)) r) wd := HJ.out _ _ _ none hJc (below_grown hbd) (fun r e => by cases e)
        have hpm : partB t k r (sects b.length) (bodyB (allB b) r) = partM t k b r := rfl
        rw [hpm]
        have hgI := gI_eq (partM t k b) r (by have := sects_most _ hb; omega) (partM_len _ _ _ _)
        obtain ⟨fn, tmps, assign, body, hy, hR⟩ := HY.out _ (gI (partM t k b) r) wd hJd (by rw [upto_len]; exact hlt) (by rw [← upto_succ]; exact upto_pre (partM t k b) (r + 1) _ (by omega) (by have := sects_most _ hb; omega) (fun i _ => partM_len _ _ _ _))
        unfold encI at hy
        rw [hgI] at hy
        rw [← upto_succ] at hR
        dsimp only at hy
        have HFd := Lib.hid (HF.out.below hbd HF.out.lt)
        have HGd := Lib.hid (HG.out.below hbd HG.out.lt)
        clear hpm hgI hJd hJc hJs hbd HI HIB
        gi_wp2
        refine hR.mono ?_
        rintro e W3 (⟨rfl, hJ3, hk3⟩ | ⟨rfl, hJx3⟩)
        · have HF3 := Lib.hid (hk3.2 _ _ _ (.inr rfl) HFd.out)
          have HG3 := Lib.hid (hk3.2 _ _ _ (.inl rfl) HGd.out)
          clear hk3 hR hy
          gi_wp2
          go_roundw
          case rel =>
            refine ⟨r + 1, by omega, by go_num, (fun hlt2 => ?_), hJ3, HF3.out, HG3.out⟩
            exfalso
            have h5 := HN1.out
            have h6 := HO1.out
            unfold sects at hlt2
            omega
          case measure =>
            simp [intOf]
            omega
        · gi_wp2
          refine bodyPost_ret (results_none rfl _ _ _) rfl ?_
          exact ⟨⟨_, rfl⟩, .inr ⟨_, upto_pre (partM t k b) (r + 1) _ (by omega) (by have := sects_most _ hb; omega) (fun i _ => partM_len _ _ _ _), hJx3⟩⟩
      · -- there is more
        gi_wp2_with (first
          | (with_reducible refine wpListIn_load_mid (op := ⟨some 30, _, _, _, _, _⟩) ?_ 101 (.tmp 1) ?_ Bf 0 ?_ (fcs t k A b.length c) _ (Row.all HF.out) Try.underlying101 ?_ HI.out ?_)
          | (with_reducible refine wpListIn_load_mid (op := ⟨some 33, _, _, _, _, _⟩) ?_ 131 (.tmp 6) ?_ wr.heap.size 0 ?_ (bv (bodyB (allB b) r)) _ (Row.all HRC.out) Try.underlying131 ?_ HIB.out ?_))
        all_goals try (first | rfl | (simp; done))
        gi_wp2_with fail
        refine ⟨trivial, callsIn_wide.2 ?_⟩
        refine (part_any t k A b.length c r (sects b.length) (bodyB (allB b) r) wc ht hk (by have := sects_most _ hb; omega) (by have := sects_most _ hb; omega) (bodyB_len _ _)).mono ?_
        rintro e wd ⟨rfl, hbd⟩
        have hJd : J (upto (gI (partM t k b)) r) wd := HJ.out _ _ _ none hJc (below_grown hbd) (fun r e => by cases e)
        have hpm : partB t k r (sects b.length) (bodyB (allB b) r) = partM t k b r := rfl
        rw [hpm]
        have hgI := gI_eq (partM t k b) r (by have := sects_most _ hb; omega) (partM_len _ _ _ _)
        obtain ⟨fn, tmps, assign, body, hy, hR⟩ := HY.out _ (gI (partM t k b) r) wd hJd (by rw [upto_len]; exact hlt) (by rw [← upto_succ]; exact upto_pre (partM t k b) (r + 1) _ (by omega) (by have := sects_most _ hb; omega) (fun i _ => partM_len _ _ _ _))
        unfold encI at hy
        rw [hgI] at hy
        rw [← upto_succ] at hR
        dsimp only at hy
        have HFd := Lib.hid (HF.out.below hbd HF.out.lt)
        have HGd := Lib.hid (HG.out.below hbd HG.out.lt)
        clear hpm hgI hJd hJc hJs hbd HI HIB
        gi_wp2
        refine hR.mono ?_
        rintro e W3 (⟨rfl, hJ3, hk3⟩ | ⟨rfl, hJx3⟩)
        · have HF3 := Lib.hid (hk3.2 _ _ _ (.inr rfl) HFd.out)
          have HG3 := Lib.hid (hk3.2 _ _ _ (.inl rfl) HGd.out)
          clear hk3 hR hy
          gi_wp2
          go_roundw
          case rel =>
            refine ⟨r + 1, by omega, by go_num, (fun hlt2 => ?_), hJ3, HF3.out, HG3.out⟩
            have h5 := HN1.out
            have h6 := HO1.out
            have h7 := HC1.out
            have h8 : q = 48 := by
              rcases Nat.lt_or_ge q 48 with h9 | h9
              · have := HQN.out h9
                unfold sects at hlt2
                omega
              · omega
            have e1 : o1 + q = 48 * (r + 1) := by omega
            have e2 : n1 - q = 4 + b.length - 48 * (r + 1) := by omega
            have e3 : c1 - q = cap - 48 * (r + 1) := by omega
            rw [e1, e2, e3]
          case measure =>
            simp [intOf]
            omega
        · gi_wp2
          refine bodyPost_ret (results_none rfl _ _ _) rfl ?_
          exact ⟨⟨_, rfl⟩, .inr ⟨_, upto_pre (partM t k b) (r + 1) _ (by omega) (by have := sects_most _ hb; omega) (fun i _ => partM_len _ _ _ _), hJx3⟩⟩

    · have h1 : ¬ (r : Int) < (sects b.length : Int) := by omega
      obtain rfl : r = sects b.length := by omega
      gi_wp2
      go_end0
      exact ⟨⟨_, rfl⟩, .inl ⟨_, upto_map (partM t k b) _ (by have := sects_most _ hb; omega) (fun i _ => partM_len _ _ _ _), hJs⟩⟩
/-- the number of a part -/
abbrev PI (b : List UInt8) := { i : Nat // i < sects b.length }
def encP (t k : Nat) (b : List UInt8) (i : PI b) : Array Value := #[.int .i64 ((i.1 : Nat) : Int), blk (partM t k b i.1)]
def toIB (t k : Nat) (b : List UInt8) (hb : b.length ≤ 40000) (i : PI b) : IB := ⟨((i.1 : Int), partM t k b i.1), by show (0 : Int) ≤ (i.1 : Int); omega, by have h1 := i.2; have := sects_most b.length hb; show (i.1 : Int) ≤ 100000; omega, partM_len _ _ _ _⟩
theorem next_part {t k : Nat} {b : List UInt8} (hb : b.length ≤ 40000) {pre : List IB} {x : IB} (h : (pre ++ [x]).map (·.1) <+: pairsM t k b) : ∃ h : pre.length < sects b.length, x = toIB t k b hb ⟨pre.length, h⟩ := by
  have hl : (pairsM t k b).length = sects b.length := by simp [pairsM]
  have h1 := h.length_le
  simp only [List.length_map, List.length_append, List.length_cons, List.length_nil] at h1
  have h2 : pre.length < sects b.length := by omega
  refine ⟨h2, ?_⟩
  obtain ⟨q, hq⟩ := h
  have h3 : (pairsM t k b)[pre.length]? = some x.1 := by
    rw [← hq, List.map_append, List.append_assoc, List.getElem?_append_right (by simp)]
    simp
  have h4 : (pairsM t k b)[pre.length]? = some ((pre.length : Int), partM t k b pre.length) := by
    unfold pairsM
    rw [List.getElem?_map, List.getElem?_range h2]
    rfl
  exact Subtype.ext (Option.some.inj (h3.symm.trans h4))
theorem parts_known {w : World} {Bf t k m c : Nat} {A : Option Addr} {b : List UInt8} (hf : Row w Bf 101 (fcs t k A m c)) (hs : By w A m c b) (hm : m ≤ 40000) (ht : t < 4294967296) (hk : k < 4294967296) (K0 : Nat → Prop) :
    SeqStopsK Fence.wide 8 Try.prog 78 #[.pointer (some ⟨Bf, 0, none⟩)] (encP t k b) (KT K0) (fun xs => xs.map (·.1) = List.range (sects b.length)) (fun _ => True) (sects b.length) w := by
  intro l J Jx W hW hJ hJx hY h0
  have hl := hs.sl.len
  have hb : b.length ≤ 40000 := by omega
  have hS := parts_in_s l Bf t k 8 m c A b (by omega) hb ht hk K0 (fun pre W => ∃ ps : List (PI b), pre = ps.map (toIB t k b hb) ∧ J ps W) (fun pre W => ∃ ps : List (PI b), pre = ps.map (toIB t k b hb) ∧ Jx ps W) W
    (fun s X Y row hs hg hr => by
      obtain ⟨ps, h1, h2⟩ := hs
      exact ⟨ps, h1, hJ _ _ _ _ h2 hg hr⟩)
    (fun pre x W1 hj hlt hp => by
      obtain ⟨ps, rfl, h2⟩ := hj
      obtain ⟨h3, rfl⟩ := next_part hb hp
      have h4 : ps.length < sects b.length := by simpa using hlt
      have hyy := hY ps ⟨(ps.map (toIB t k b hb)).length, h3⟩ W1 h2 h4
      refine hyy.mono ?_
      rintro e W' (⟨he, hj', hk'⟩ | ⟨he, hj'⟩)
      · exact .inl ⟨he, ⟨_, by simp, hj'⟩, hk'⟩
      · exact .inr ⟨he, ⟨_, by simp, hj'⟩⟩)
    (hf.below hW hf.lt) ((hs.sl.below hW).more hW.size) ⟨[], rfl, h0⟩
  refine hS.mono ?_
  rintro e W' ⟨hv, h | h⟩
  · obtain ⟨xs, h1, ps, rfl, h2⟩ := h
    refine ⟨hv, .inl ⟨ps, ?_, h2⟩⟩
    have h5 : (ps.map (·.1)).map (fun i : Nat => ((i : Int), partM t k b i)) = (List.range (sects b.length)).map (fun i : Nat => ((i : Int), partM t k b i)) := by
      have : ((ps.map (toIB t k b hb)).map (·.1)) = (ps.map (·.1)).map (fun i : Nat => ((i : Int), partM t k b i)) := by
        rw [List.map_map, List.map_map]; rfl
      rw [← this]; exact h1
    have h6 := congrArg (List.map (fun p : Int × List UInt8 => p.1.toNat)) h5
    have hid : ((fun p : Int × List UInt8 => p.1.toNat) ∘ fun i : Nat => ((i : Int), partM t k b i)) = id := by funext i; simp
    rw [List.map_map (l := List.range (sects b.length)), List.map_map (l := ps.map (·.1)), hid, List.map_id, List.map_id] at h6
    exact h6
  · obtain ⟨pre, _, ps, rfl, h2⟩ := h
    exact ⟨hv, .inr ⟨ps, trivial, h2⟩⟩
end Go.Proofs.Yteemdjamgbbjhaa.Wl

/-
  The chain of a turn.
-/
namespace Go.Proofs.Yteemdjamgbbjhaa.Wl
set_option maxRecDepth 100000
open Go.RowKit Go.Shelf Go.Proofs.Yteemdjamgbbjhaa.Wd Go.Proofs.Yteemdjamgbbjhaa.Dsk Go.Proofs.Yteemdjamgbbjhaa.Oct Go.Proofs.Yteemdjamgbbjhaa.Sum

attribute [local go_sem] Oper.semAt_some

def ChP (w w' : World) (t : Nat) (fs : List (List UInt8)) (e : Ending) : Prop :=
  ∃ A cc, e = .returned (.agg (ccs t A fs.length cc (usedM fs)).toArray) ∧ Frs w' w.heap.size A cc fs ∧ Below w.heap.size w w'
theorem Sect.drop {w : World} {gs u : Nat} {L : List (List UInt8)} (h : Sect w gs u L) (k : Nat) (hk : k ≤ L.length) : Sect w gs (u + k) (L.drop k) := by
  have hf : L.flatten.length = L.length * 64 := flat_len L h.1
  have hf2 : (L.take k).flatten.length = k * 64 := by
    rw [flat_len _ (fun b hb => h.1 b (List.mem_of_mem_take hb)), List.length_take, Nat.min_eq_left hk]
  refine ⟨fun b hb => h.1 b (List.mem_of_mem_drop hb), ?_⟩
  have h2 := h.2.cut (k * 64) (L.length * 64 - k * 64) (by omega)
  have e : (L.flatten.drop (k * 64)).take (L.length * 64 - k * 64) = (L.drop k).flatten := by
    rw [List.take_of_length_le (by rw [List.length_drop]; omega)]
    have : L.flatten = (L.take k).flatten ++ (L.drop k).flatten := by rw [← List.flatten_append, List.take_append_drop]
    rw [this, ← hf2, List.drop_left]
  rw [e] at h2
  rw [Nat.add_mul]
  simpa [Addr.add_lit] using h2
theorem chain_end {w W : World} {t : Nat} {fs M : List (List UInt8)} {A : Option Addr} {cc : Nat} {tmps : Array Value} (ds : List Nat) (hfs : M = fs) (hM : Mks w.heap.size ds W) (hr : Row W (w.heap.size + 1) 81 (ccs t A fs.length cc (usedM fs))) (hf : Frs W w.heap.size A cc fs) (hb : Below w.heap.size w W)
    (ht : tmps.getD 4 undef = .pointer (some ⟨w.heap.size + 1, 0, none⟩)) :
    LeavesInM Fence.wide 9 Try.prog Try.f63 tmps (fun e w' => ChP w w' t M e) (marksOf ds) .returning W := by
  refine leaves_marks (base := w.heap.size) (J := fun W => Row W (w.heap.size + 1) 81 (ccs t A fs.length cc (usedM fs)) ∧ Frs W w.heap.size A cc fs ∧ Below w.heap.size w W) ?_ ?_ ds W hM ⟨hr, hf, hb⟩
  · rintro X Y row ⟨h1, h2, h3⟩ hg hr
    have hr' := fun r e => (hr r e).2
    exact ⟨row_kept h1 hg hr', h2.keepR (keepR_noncells hg hr'), h3.grown hg h3.size (fun r e => (hr r e).1)⟩
  · rintro W ⟨h1, h2, h3⟩
    have hl := run_loadVar_mid (P := Try.prog) W (w.heap.size + 1) 0 81 (ccs t A fs.length cc (usedM fs)) _ (Row.all h1) Try.underlying81 rfl (show (Try.prog.info? 81).map (·.size) = some 3 from size81)
    exact ⟨_, results_cell (p := 4) (ty := 81) rfl _ _ _ _ ht hl, A, cc, by rw [hfs], by rw [hfs]; exact h2, h3⟩
theorem claimed_some {s : List (List UInt8)} {b : List UInt8} (h64 : ∀ x ∈ s, x.length = 64) (h : claimedM s = some b) : b.length ≤ 40000 ∧ sects b.length ≤ s.length := by
  cases s with
  | nil => cases h
  | cons x s =>
    have hcl : claimedM (x :: s) = if 40000 < num ((x.drop 16).take 4) then none else if (x :: s).length < sects (num ((x.drop 16).take 4)) then none else some (((((x :: s).take (sects (num ((x.drop 16).take 4)))).flatMap (List.drop 16)).drop 4).take (num ((x.drop 16).take 4))) := rfl
    rw [hcl] at h
    obtain ⟨N, hN⟩ : ∃ N, num ((x.drop 16).take 4) = N := ⟨_, rfl⟩
    rw [hN] at h
    split at h
    · cases h
    · split at h
      · cases h
      · rename_i h1 h2
        have e := Option.some.inj h
        have hfl : ∀ l : List (List UInt8), (∀ y ∈ l, y.length = 64) → (l.flatMap (List.drop 16)).length = 48 * l.length := by
          intro l
          induction l with
          | nil => intro _; rfl
          | cons y l ih =>
            intro hl
            rw [List.flatMap_cons, List.length_append, ih (fun z hz => hl z (by simp [hz])), List.length_drop, hl y (by simp), List.length_cons]
            omega
        have hb : b.length = N := by
          have e2 : min (sects N) (x :: s).length = sects N := Nat.min_eq_left (by omega)
          rw [← e, List.length_take, List.length_drop, hfl _ (fun y hy => h64 y (List.mem_of_mem_take hy)), List.length_take, e2]
          unfold sects
          omega
        rw [hb]
        exact ⟨by omega, by omega⟩
theorem stands_other {t k : Nat} {s : List (List UInt8)} {b : List UInt8} (hc : claimedM s = some b) {i : Nat} (h : s.getD i nought ≠ partM t k b i ∧ i < sects b.length) : standsM t k s = none := by
  unfold standsM
  rw [hc]
  show (if _ then some b else none) = none
  rw [if_neg]
  intro he
  refine h.1 ?_
  have h1 : (partsM t k b)[i]? = some (partM t k b i) := by
    unfold partsM
    rw [List.getElem?_map, List.getElem?_range h.2]
    rfl
  rw [he, List.getElem?_take, if_pos h.2] at h1
  rw [List.getD_eq_getElem?_getD, h1]
  rfl
theorem stands_all {t k : Nat} {s : List (List UInt8)} {b : List UInt8} (hc : claimedM s = some b) (hn : sects b.length ≤ s.length) (h : ∀ j, j < sects b.length → s.getD j nought = partM t k b j) : standsM t k s = some b := by
  unfold standsM
  rw [hc]
  show (if _ then some b else none) = some b
  rw [if_pos]
  refine List.ext_getElem? (fun j => ?_)
  unfold partsM
  by_cases hj : j < sects b.length
  · rw [List.getElem?_map, List.getElem?_range hj, List.getElem?_take, if_pos hj]
    have h1 := h j hj
    rw [List.getD_eq_getElem?_getD, List.getElem?_eq_getElem (by omega)] at h1
    rw [List.getElem?_eq_getElem (by omega)]
    exact congrArg some h1.symm
  · rw [List.getElem?_eq_none (by simp; omega), List.getElem?_take, if_neg hj]
theorem own_apart2 {W W2 : World} {v : Value} {n : Nat} {xs : List Value} (ho : W.ownsRow 0 37 1 v n xs) (hg : W.grownBy W2 v.ownBlock) {k : Nat} {o : Obj} (hk : W.heap[k]? = some o) (hne : o.isCells = false) : W2.heap[k]? = some o :=
  (hg.block k (Array.getElem?_eq_some_iff.1 hk).1 (fun e => by
    rcases ho with ⟨_, hv | ⟨g, cap, cur, hv, _, hg2, _⟩⟩
    · rw [hv.1] at e; cases e
    · rw [hv] at e
      cases e
      rw [hg2] at hk
      cases hk
      cases hne)).trans hk
theorem own_apart {W W2 : World} {v : Value} {n : Nat} {xs : List Value} (ho : W.ownsRow 0 37 1 v n xs) (hg : W.grownBy W2 v.ownBlock) {k : Nat} {t : TypeId} {cs : List Value} (hk : Row W k t cs) (hne : t ≠ 37) : Row W2 k t cs :=
  (hg.block k hk.lt (fun e => by
    rcases ho with ⟨_, hv | ⟨g, cap, cur, hv, _, hg2, _⟩⟩
    · rw [hv.1] at e; cases e
    · rw [hv] at e
      cases e
      exact hne (row_type hk (show Row W _ 37 cur.toList by show _ = _; simpa using hg2)))).trans hk
theorem yields_neq_blk {ops : Array Oper} {S : World → Prop} {o : Oper} {a : Act} (hw : Region.wanted o (yielded ops a.tmps) = true) (x y : Operand) (ho : o.op = .binOp .neq 89 x y 89) (l m : List UInt8) (hx : a.eval x = blk l) (hy : a.eval y = blk m) (hl : l.length = 64) (hm : m.length = 64) :
    YieldsIf Try.prog ops S o (.bool (!decide (l = m))) a :=
  Or.inl ⟨hw, fun w _ => by
    have hr := run_neq_blk w x y l m hl hm
    rw [Sem.run_bind] at hr
    unfold execOp
    simp only [ho, hx, hy, Sem.run_bind]
    revert hr
    generalize (eqGuard .neq 89 x y (blk l) (blk m)).run Try.prog w = r
    intro hr
    cases r with
    | halt e u => simp [Result.andThen] at hr
    | ok z u =>
      simp only [Result.andThen_ok] at hr ⊢
      rw [hr]
      rfl⟩
theorem wrap_two {a b : Nat} (h : a + b ≤ 100000) : wrap64 ((a : Int) + (b : Int)) = ((a + b : Nat) : Int) := by unfold wrap64; omega
theorem wrap_two2 {a b : Nat} (h : a + b ≤ 100000) : IntKind.i64.wrap ((a : Int) + (b : Int)) = ((a + b : Nat) : Int) := by rw [IntKind.wrap_i64]; omega
theorem il_lt {us i n l : Nat} (h : i < n) (h2 : n ≤ l - us) (hul : us ≤ l) : us + i < l := by omega
/-- what the rounds over the parts hold -/
structure CH (w : World) (t gs u c : Nat) (L fs : List (List UInt8)) (b8 : Nat) (Ab : Option Addr) (m cb : Nat) (b : List UInt8) (ds : List Nat) (W : World) : Prop where
  ci : CI w t gs u c L fs W
  b8 : Row W b8 101 (fcs t fs.length Ab m cb)
  by_ : By W Ab m cb b
  mks : Mks w.heap.size ds W
theorem by_kept {W W' : World} {A : Option Addr} {n c : Nat} {l : List UInt8} (h : By W A n c l) (hk : KeepR W W') : By W' A n c l := own_keepR h (.inr rfl) hk
theorem CH.own {w : World} {t gs u c : Nat} {L fs : List (List UInt8)} {b8 : Nat} {Ab : Option Addr} {m cb : Nat} {b : List UInt8} {ds : List Nat} {W W' w8 : World} {row : Option Nat} (h : CH w t gs u c L fs b8 Ab m cb b ds W) (hg : W.grownBy W' row) (hr : ∀ r, row = some r → w.heap.size ≤ r ∧ ∃ o : Obj, W.heap[r]? = some o ∧ o.isCells = false) (hr8 : ∀ r, row = some r → w8.heap.size ≤ r) (hM8 : Mks w.heap.size ds w8) : CH w t gs u c L fs b8 Ab m cb b ds W' := by
  have hr' := fun r e => (hr r e).2
  refine ⟨h.ci.own hg hr, row_kept h.b8 hg hr', by_kept h.by_ (keepR_noncells hg hr'), ⟨h.mks.nodup, fun D hD => ⟨(h.mks.open_ D hD).1, ?_⟩⟩⟩
  have hlt : D < w8.heap.size := (Array.getElem?_eq_some_iff.1 (hM8.open_ D hD).2).1
  exact (hg.block D (Array.getElem?_eq_some_iff.1 (h.mks.open_ D hD).2).1 (fun e => by have := hr8 D e.symm; omega)).trans (h.mks.open_ D hD).2
set_option maxHeartbeats 1000000 in
theorem chain_any (t gs u c : Nat) (L : List (List UInt8)) (w : World) (ht : t < 4294967296) (hs : Sect w gs u L) (hc : L.length ≤ c) (hm : L.length ≤ 1000) :
    Calls Try.prog 63 #[.int .u32 (t : Int), .slice (some ⟨gs, u * 64, none⟩) L.length c] w fun e w' => ChP w w' t (chainM t (L.length + 1) 0 L) e := by
  have mixed : Try.prog.follows .mixedOrders = true := by kernel_rfl
  refine (callsIn_wide (n := 9)).1 ?_
  refine callsIn_of_wp_marks Try.func63 rfl trivial ?_ rfl
  refine wpIn_wide.2 ?_
  simp only [Try.ntmps63, List.size_toArray, List.length_cons, List.length_nil, Nat.reduceAdd, Nat.reduceSub, Array.replicate_succ, Array.replicate_zero, List.push_toArray, List.append_toArray, List.nil_append, List.cons_append]
  go_wp2_with fail
  refine nw fun w1 hw1 => ?_
  have hb1 : Below w.heap.size w w1 := by
    rw [← hw1]
    exact ((Below.refl _ _).alloc (Nat.le_refl _) _).alloc (by simp) _
  have hs1 : w1.heap.size = w.heap.size + 2 := by rw [← hw1]; simp
  have hr3 : Row w1 w.heap.size 72 [.slice (some ⟨gs, u * 64, none⟩) L.length c] := by rw [← hw1]; exact (Row.new w _ _).alloc _
  have hr4 : Row w1 (w.heap.size + 1) 81 (ccs 0 none 0 0 0) := by
    rw [← hw1]
    have := Row.new (w.alloc (.cells #[.slice (some ⟨gs, u * 64, none⟩) L.length c] 72)) 81 (ccs 0 none 0 0 0)
    rw [World.size_alloc] at this
    exact this
  clear hw1
  have HLC := Lib.hid (show (ccs t none 0 0 0).length = (ccs 0 none 0 0 0).length from rfl)
  have HI81 := Lib.hid fun (a : Nat) A (b c d : Nat) => (show (Try.prog.info? 81).map (·.size) = some (ccs a A b c d).length from size81)
  refine wp_scope_straight ?_
  go_wp2_with (first
    | (with_reducible refine wpList_store_whole (op := ⟨none, _, _, _, _, _⟩) ?_ 81 (.tmp 5) (.tmp 12) ?_ (w.heap.size + 2) (ccs t none 0 0 0) ?_ ?_ 81 (ccs 0 none 0 0 0) ?hrow HLC.out (ccs_one _ _ _ _ _) (HI81.out _ _ _ _ _) ?_))
  case hrow =>
    have := Row.new w1 81 (ccs 0 none 0 0 0)
    rw [hs1] at this
    exact this
  all_goals try (first | rfl | (simp; done))
  intro w2 hr5 hg2
  have hb2 : Below w1.heap.size w1 w2 := ((Below.refl _ _).alloc (Nat.le_refl _) _).grown hg2 (by simp) (fun k hk => by have := Option.some.inj hk; omega)
  have hs2 : w.heap.size + 3 ≤ w2.heap.size := by have := hr5.lt; omega
  have hCI : CI w t gs u c L [] w2 := ⟨hr3.below hb2 hr3.lt, hr4.below hb2 hr4.lt, ⟨none, 0, hr5, Frs.nil _ _⟩, hb1.trans (hb2.mono hb1.size), hs2⟩
  have HCI := Lib.hid hCI
  clear hr3 hr4 hr5 hg2 hb2 hs2 hCI hb1
  go_wp2_with fail
  refine wp_label ?_
  go_wp2_with fail
  refine wp_loop_ghost (fun m a W => ∃ (u6 u7 u8 u9 u10 u13 u14 u15 u16 u17 u18 u19 u20 u21 u22 u23 u24 u25 u26 u27 u28 u29 u30 u31 u32 u33 u34 u35 u36 u37 u38 u39 u40 u41 : Value) (ds : List Nat) (fs : List (List UInt8)), a = { tmps := #[.int .u32 (t : Int), .slice (some ⟨gs, u * 64, none⟩) L.length c, undef, .pointer (some ⟨w.heap.size, 0, none⟩), .pointer (some ⟨w.heap.size + 1, 0, none⟩), .pointer (some ⟨w.heap.size + 2, 0, none⟩), u6, u7, u8, u9, u10, .int .u32 (t : Int), .agg (ccs t none 0 0 0).toArray, u13, u14, u15, u16, u17, u18, u19, u20, u21, u22, u23, u24, u25, u26, u27, u28, u29, u30, u31, u32, u33, u34, u35, u36, u37, u38, u39, u40, u41, undef], defers := marksOf ds } ∧ Mks w.heap.size ds W ∧ CI w t gs u c L fs W ∧ m = L.length - usedM fs ∧ usedM fs ≤ L.length ∧ fs.length ≤ usedM fs ∧ chainM t (L.length + 1) 0 L = fs ++ chainM t (L.length + 1 - fs.length) fs.length (L.drop (usedM fs))) L.length ?_ ?_
  · refine ⟨_, _, _, _, _, _, _, _, _, _, _, _, _, _, _, _, _, _, _, _, _, _, _, _, _, _, _, _, _, _, _, _, _, _, [], [], rfl, Mks.nil _ _, HCI.out, rfl, Nat.zero_le _, Nat.le_refl _, rfl⟩
  · rintro m a W ⟨u6, u7, u8, u9, u10, u13, u14, u15, u16, u17, u18, u19, u20, u21, u22, u23, u24, u25, u26, u27, u28, u29, u30, u31, u32, u33, u34, u35, u36, u37, u38, u39, u40, u41, ds, fs, rfl, hM, hCI, rfl, hul, hfl, hch⟩
    have HMK := Lib.hid hM
    have HCJ := Lib.hid hCI
    have HCH0 := Lib.hid hch
    obtain ⟨A, cc, b5, hfr⟩ := hCI.b5
    have HFR := Lib.hid hfr
    have B5 := Lib.hid b5
    have e3 : W.cell? ⟨w.heap.size, 0, none⟩ = some (.slice (some ⟨gs, u * 64, none⟩) L.length c) := hCI.b3.cell 0
    have e52 : W.cell? ⟨w.heap.size + 2, 2, none⟩ = some (.int .i64 (usedM fs : Int)) := b5.cell 2
    clear hM hCI hch hfr b5
    obtain ⟨us, hus⟩ : ∃ us, usedM fs = us := ⟨_, rfl⟩
    rw [hus] at e52 hul hfl
    have HUS := Lib.hid hus
    clear hus
    have g1 : (us : Int) ≤ (L.length : Int) := by omega
    have g2 : (0 : Int) ≤ (us : Int) := by omega
    have g3 : (L.length : Int) ≤ (c : Int) := by omega
    have HSW := Lib.hid (hs.below HCJ.out.below)
    by_cases hcu : us = c
    · have hll : L.length - us = 0 := by omega
      have HCL := Lib.hid (claimed_any gs u 0 [] W ⟨fun _ h => by simp at h, Bs.nil _ _ _⟩ (Nat.le_refl _) (by simp))
      have HCE := Lib.hid (show claimedM (L.drop us) = none by rw [List.drop_eq_nil_of_le (by omega)]; rfl)
      go_wp2_with fail
      refine HCL.out.mono ?_
      rintro e w5 ⟨hcl, hb5⟩
      rcases hcl with ⟨_, rfl⟩ | ⟨l, _, _, hx, _⟩
      · have HCK := Lib.hid (HCJ.out.more hb5)
        have HMK5 := Lib.hid (HMK.out.kept (fun k o h _ _ => (hb5.block k (Array.getElem?_eq_some_iff.1 h).1).trans h))
        clear hb5
        obtain ⟨A5, cc5, b55, hf5⟩ := HCK.out.b5
        have B55 := Lib.hid b55
        have B54 := Lib.hid HCK.out.b4
        have HF5 := Lib.hid hf5
        have HB5 := Lib.hid HCK.out.below
        have HLD := Lib.hid (show (ccs t A5 fs.length cc5 (usedM fs)).length = (ccs 0 none 0 0 0).length from rfl)
        have HFS : Hid (chainM t (L.length + 1) 0 L = fs) := Lib.hid (by
          rw [HCH0.out]
          obtain ⟨f, hf⟩ : ∃ f, L.length + 1 - fs.length = f + 1 := ⟨L.length - fs.length, by omega⟩
          rw [hf, HUS.out]
          simp [chainM, standsM, HCE.out])
        clear b55 hf5
        go_wp2_with (first
          | (with_reducible refine wpList_load_row (op := ⟨some 42, _, _, _, _, _⟩) ?_ 81 (.tmp 5) ?_ (w.heap.size + 2) 0 ?_ (ccs t A5 fs.length cc5 (usedM fs)) _ (Row.all B55.out) Try.underlying81 ?_ (HI81.out _ _ _ _ _) ?_)
          | (with_reducible refine wpList_store_whole (op := ⟨none, _, _, _, _, _⟩) ?_ 81 (.tmp 4) (.tmp 42) ?_ (w.heap.size + 1) (ccs t A5 fs.length cc5 (usedM fs)) ?_ ?_ 81 (ccs 0 none 0 0 0) B54.out HLD.out (ccs_one _ _ _ _ _) (HI81.out _ _ _ _ _) ?_))
        all_goals try (first | rfl | (simp; done))
        intro w6 hr6 hg6
        have hM6 : Mks w.heap.size ds w6 := HMK5.out.kept (fun k o h ho _ => (hg6.block k (Array.getElem?_eq_some_iff.1 h).1 (fun e => by
          cases e
          rw [show w5.heap[w.heap.size + 1]? = _ from B54.out] at h
          cases h
          cases ho)).trans h)
        have hk6 : KeepR w5 w6 := keepR_grown B54.out ⟨by decide, by decide⟩ hg6
        have hb6 : Below w.heap.size w w6 := HB5.out.grown hg6 HB5.out.size (fun j e => by have := Option.some.inj e; omega)
        go_wp2_with fail
        show LeavesInM Fence.wide 9 Try.prog _ _ _ _ .returning w6
        exact chain_end ds HFS.out hM6 hr6 (HF5.out.keepR hk6) hb6 rfl
      · cases hx
    · have hul2 : (L.drop us).length = L.length - us := List.length_drop
      have hcl : Sect W gs (u + us) (L.drop us) := HSW.out.drop us hul
      have HCL := Lib.hid (claimed_any gs (u + us) (c - us) (L.drop us) W hcl (by omega) (by omega))
      rw [hul2, Nat.add_mul] at HCL
      have hne : (us : Int) ≠ (c : Int) := by omega
      clear hcl hul2
      go_wp2_with fail
      refine HCL.out.mono ?_
      rintro e w5 ⟨hcl, hb5⟩
      have HCK := Lib.hid (HCJ.out.more hb5)
      have HMK5 := Lib.hid (HMK.out.kept (fun k o h _ _ => (hb5.block k (Array.getElem?_eq_some_iff.1 h).1).trans h))
      clear hb5
      rcases hcl with ⟨hce, rfl⟩ | ⟨b, A2, c2, hx, rfl, hsl⟩
      · have HCE := Lib.hid hce
        clear hce
        obtain ⟨A5, cc5, b55, hf5⟩ := HCK.out.b5
        have B55 := Lib.hid b55
        have B54 := Lib.hid HCK.out.b4
        have HF5 := Lib.hid hf5
        have HB5 := Lib.hid HCK.out.below
        have HLD := Lib.hid (show (ccs t A5 fs.length cc5 (usedM fs)).length = (ccs 0 none 0 0 0).length from rfl)
        have HFS : Hid (chainM t (L.length + 1) 0 L = fs) := Lib.hid (by
          rw [HCH0.out]
          obtain ⟨f, hf⟩ : ∃ f, L.length + 1 - fs.length = f + 1 := ⟨L.length - fs.length, by omega⟩
          rw [hf, HUS.out]
          simp [chainM, standsM, HCE.out])
        clear b55 hf5
        go_wp2_with (first
          | (with_reducible refine wpList_load_row (op := ⟨some 42, _, _, _, _, _⟩) ?_ 81 (.tmp 5) ?_ (w.heap.size + 2) 0 ?_ (ccs t A5 fs.length cc5 (usedM fs)) _ (Row.all B55.out) Try.underlying81 ?_ (HI81.out _ _ _ _ _) ?_)
          | (with_reducible refine wpList_store_whole (op := ⟨none, _, _, _, _, _⟩) ?_ 81 (.tmp 4) (.tmp 42) ?_ (w.heap.size + 1) (ccs t A5 fs.length cc5 (usedM fs)) ?_ ?_ 81 (ccs 0 none 0 0 0) B54.out HLD.out (ccs_one _ _ _ _ _) (HI81.out _ _ _ _ _) ?_))
        all_goals try (first | rfl | (simp; done))
        intro w6 hr6 hg6
        have hM6 : Mks w.heap.size ds w6 := HMK5.out.kept (fun k o h ho _ => (hg6.block k (Array.getElem?_eq_some_iff.1 h).1 (fun e => by
          cases e
          rw [show w5.heap[w.heap.size + 1]? = _ from B54.out] at h
          cases h
          cases ho)).trans h)
        have hk6 : KeepR w5 w6 := keepR_grown B54.out ⟨by decide, by decide⟩ hg6
        have hb6 : Below w.heap.size w w6 := HB5.out.grown hg6 HB5.out.size (fun j e => by have := Option.some.inj e; omega)
        go_wp2_with fail
        show LeavesInM Fence.wide 9 Try.prog _ _ _ _ .returning w6
        exact chain_end ds HFS.out hM6 hr6 (HF5.out.keepR hk6) hb6 rfl
      · have HSL := Lib.hid hsl
        have HCE := Lib.hid hx
        clear hsl hx
        obtain ⟨A5, cc5, b55, hf5⟩ := HCK.out.b5
        have B55 := Lib.hid b55
        have HF5 := Lib.hid hf5
        clear b55 hf5
        go_wp2_with (first
          | (with_reducible refine wpList_load_row (op := ⟨some 23, _, _, _, _, _⟩) ?_ 81 (.tmp 5) ?_ (w.heap.size + 2) 0 ?_ (ccs t A5 fs.length cc5 (usedM fs)) _ (Row.all B55.out) Try.underlying81 ?_ (HI81.out _ _ _ _ _) ?_))
        all_goals try (first | rfl | (simp; done))
        go_wp2_with fail
        have hcs := claimed_some (fun x hx => HSW.out.1 x (List.mem_of_mem_drop hx)) HCE.out
        have HCS : Hid (b.length ≤ 40000 ∧ sects b.length ≤ L.length - us) := Lib.hid ⟨hcs.1, by have := hcs.2; rw [List.length_drop] at this; exact this⟩
        clear hcs
        have hk32 : fs.length < 4294967296 := by omega
        refine (next_any t fs.length cc5 (usedM fs) A5 A2 b.length c2 b w5 HSL.out HCS.out.1 hk32 ht).mono ?_
        rintro e w6 ⟨Ab, cb, rfl, hby, hab, hb6⟩
        have HBY := Lib.hid hby
        have HAB := Lib.hid hab
        have HC6 := Lib.hid (HCK.out.more hb6)
        have HM6 := Lib.hid (HMK5.out.kept (fun k o h _ _ => (hb6.block k (Array.getElem?_eq_some_iff.1 h).1).trans h))
        have HSZ6 := Lib.hid hb6.size
        clear hby hab hb6
        have HLF := Lib.hid (show (fcs t fs.length Ab b.length cb).length = nofr.length from rfl)
        have HI101 := Lib.hid (show (Try.prog.info? 101).map (·.size) = some (fcs t fs.length Ab b.length cb).length from size101)
        go_wp2_with (first
          | (with_reducible refine wpList_store_whole (op := ⟨none, _, _, _, _, _⟩) ?_ 101 (.tmp 8) (.tmp 25) ?_ w6.heap.size (fcs t fs.length Ab b.length cb) ?_ ?_ 101 nofr ?hrowf HLF.out (fcs_one _ _ _ _ _) HI101.out ?_))
        case hrowf => exact Row.new w6 _ nofr
        all_goals try (first | rfl | (simp; done))
        intro w7 hr7 hg7
        have hb7 : Below w6.heap.size w6 w7 := ((Below.refl _ _).alloc (Nat.le_refl _) _).grown hg7 (by simp) (fun k hk => by cases hk; exact Nat.le_refl _)
        have R87 := Lib.hid hr7
        have HC7 := Lib.hid (HC6.out.more hb7)
        have HM7 := Lib.hid (HM6.out.kept (fun k o h _ _ => (hb7.block k (Array.getElem?_eq_some_iff.1 h).1).trans h))
        have HBY7 := Lib.hid (own_below HBY.out hb7)
        clear hr7 hg7 hb7
        go_wp2_with (first
          | (with_reducible refine wpList_load_row (op := ⟨some 26, _, _, _, _, _⟩) ?_ 101 (.tmp 8) ?_ w6.heap.size 0 ?_ (fcs t fs.length Ab b.length cb) _ (Row.all R87.out) Try.underlying101 ?_ HI101.out ?_))
        all_goals try (first | rfl | (simp; done))
        go_wp2_with fail
        refine (parts_any t fs.length Ab b.length cb w7).mono ?_
        rintro e w8 ⟨rfl, hw8⟩
        have r9 : Row w8 w7.heap.size 101 (fcs t fs.length Ab b.length cb) := by rw [hw8]; exact Row.new w7 _ _
        have hb9 : Below w7.heap.size w7 w8 := by rw [hw8]; exact (Below.refl _ _).alloc (Nat.le_refl _) _
        clear hw8
        have R88 := Lib.hid (R87.out.below hb9 R87.out.lt)
        have R98 := Lib.hid r9
        have HC8 := Lib.hid (HC7.out.more hb9)
        have HM8 := Lib.hid (HM7.out.kept (fun k o h _ _ => (hb9.block k (Array.getElem?_eq_some_iff.1 h).1).trans h))
        have HBY8 := Lib.hid (own_below HBY7.out hb9)
        clear hb9 r9
        obtain ⟨b8, hb8⟩ : ∃ b8, w6.heap.size = b8 := ⟨_, rfl⟩
        obtain ⟨b9, hb9⟩ : ∃ b9, w7.heap.size = b9 := ⟨_, rfl⟩
        have HB8 : Hid (w.heap.size + 3 ≤ b8) := Lib.hid (by rw [← hb8]; exact HC6.out.sz)
        rw [hb8] at R88 HSZ6 ⊢
        rw [hb9] at R98 ⊢
        clear hb8 hb9
        go_wp2_with fail
        obtain ⟨w0, hw0⟩ : ∃ w0, w0 = w8 := ⟨_, rfl⟩
        have HW0 := Lib.hid hw0
        have hpl : (pairsM t fs.length b).length = sects b.length := by simp [pairsM]
        refine (wpIn_wide (n := 9)).1 ?_
        refine wpIn_rangeFunc_ownH (F := Fence.wide) (n := 9) rfl (by omega) (gf := 78) (lb := #[.pointer (some ⟨b9, 0, none⟩)]) rfl trivial (enters_of Try.func78 (by kernel_rfl) rfl)
          (encs := encP t fs.length b) (Kp := KT (fun k => k < w8.heap.size)) (S := fun xs => xs.map (·.1) = List.range (sects b.length)) (Sp := fun _ => True) (N := sects b.length) (w0 := w8) (parts_known R98.out HBY8.out HCS.out.1 ht hk32 (fun k => k < w8.heap.size)) (fun h k => h.trans k) ?hKb (Below.refl _ _) (fun _ => rfl)
          (fun pre W => CH w t gs u c L fs b8 Ab b.length cb b ds W ∧ w8.heap.size ≤ W.heap.size ∧ ∀ x ∈ pre, L.getD (us + x.1) nought = partM t fs.length b x.1)
          (fun cd pre W => cd = .exit 0 ∧ CH w t gs u c L fs b8 Ab b.length cb b ds W ∧ ∃ x ∈ pre, L.getD (us + x.1) nought ≠ partM t fs.length b x.1)
          (fun s X Y row hs hg hr => ⟨CH.own hs.1 hg (fun r e => ⟨Nat.le_trans HC8.out.below.size (hr r e).1, (hr r e).2⟩) (fun r e => (hr r e).1) HM8.out, Nat.le_trans hs.2.1 hg.size, hs.2.2⟩) (fun cd s X Y row hs hg hr => ⟨hs.1, CH.own hs.2.1 hg (fun r e => ⟨Nat.le_trans HC8.out.below.size (hr r e).1, (hr r e).2⟩) (fun r e => (hr r e).1) HM8.out, hs.2.2⟩) ⟨⟨HC8.out, R88.out, HBY8.out, HM8.out⟩, Nat.le_refl _, fun x hx => absurd hx (by simp)⟩
          (fun x a' W => ∃ b10, w8.heap.size ≤ b10 ∧ Row W b10 89 (bv (partM t fs.length b x.1)) ∧ ∃ v28 v29 : Value, v28 = .int .i64 ((x.1 : Nat) : Int) ∧ a' = { tmps := #[.int .u32 (t : Int), .slice (some ⟨gs, u * 64, none⟩) L.length c, undef, .pointer (some ⟨w.heap.size, 0, none⟩), .pointer (some ⟨w.heap.size + 1, 0, none⟩), .pointer (some ⟨w.heap.size + 2, 0, none⟩), .slice A2 b.length c2, .bool true, .pointer (some ⟨b8, 0, none⟩), v28, .pointer (some ⟨b10, 0, none⟩), .int .u32 (t : Int), .agg (ccs t none 0 0 0).toArray, .tuple #[.slice A2 b.length c2, .bool true], .slice (some ⟨gs, u * 64, none⟩) L.length c, .pointer (some ⟨w.heap.size + 2, 2, none⟩), .int .i64 (us : Int), .slice (some ⟨gs, u * 64 + us * 64, none⟩) (L.length - us) (c - us), .tuple #[.slice A2 b.length c2, .bool true], .slice A2 b.length c2, .bool true, .bool true, .bool false, .agg (ccs t A5 fs.length cc5 (usedM fs)).toArray, .slice A2 b.length c2, .agg (fcs t fs.length Ab b.length cb).toArray, .agg (fcs t fs.length Ab b.length cb).toArray, .func (.func 78) #[] #[.pointer (some ⟨b9, 0, none⟩)], v28, v29, u30, u31, u32, u33, u34, u35, u36, u37, u38, u39, u40, u41, undef], defers := [] }) ?hAx ?assign ?body ?done ?stop
        case hKb =>
          intro W l o o' hl ho hc _
          refine ⟨fun k hk => World.putObj_heap_other (by omega), fun k cs t _ hr => ?_⟩
          have hne : k ≠ l := fun e => by
            subst e
            rw [show W.heap[k]? = _ from hr] at ho
            cases ho
            cases hc
          exact (World.putObj_heap_other hne).trans hr
        case hAx =>
          rintro x a' _ X Y row ⟨b10, n1, r10, rest⟩ hg hr
          exact ⟨b10, n1, row_kept r10 hg (fun q e => (hr q e).2), rest⟩
        case assign =>
          intro l pre x W K hI hK
          have hx64 : (partM t fs.length b x.1).length = 64 := partM_len _ _ _ _
          have HRN := Lib.hid (Row.new W 89 (bv nought))
          have HFT : Hid (0 + (bv (partM t fs.length b x.1)).length ≤ (bv nought).length) := (show _ ≤ _ by rw [bv_length, bv_length, hx64]; exact Nat.le_refl _)
          have HSZ : Hid ((Try.prog.info? 89).map (·.size) = some (bv (partM t fs.length b x.1)).length) := (show _ = _ by rw [bv_length, hx64]; exact size39)
          have HI := Lib.hid hI
          unfold encP blk
          clear hI
          gi_wp2_with (first
            | (with_reducible refine wpListIn_store_in (op := ⟨none, _, _, _, _, _⟩) ?_ 89 (.tmp 10) (.tmp 29) ?_ W.heap.size 0 (bv (partM t fs.length b x.1)) ?_ ?_ 89 (bv nought) ?_ HFT.out bv_one HSZ.out ?_))
          all_goals try (first | rfl | exact HRN.out)
          intro W3 hr3 hg3
          rw [splice_all (bv nought) (bv (partM t fs.length b x.1)) (by rw [bv_length, bv_length, hx64]; rfl)] at hr3
          have hb3 : Below W.heap.size W W3 := ((Below.refl _ _).alloc (Nat.le_refl _) _).grown hg3 (by simp) (fun j e => Nat.le_of_eq (Option.some.inj e))
          have hsz8 := HI.out.2.1
          refine hK _ W3 ⟨hb3.size, fun k o _ hk _ => (hb3.block k (Array.getElem?_eq_some_iff.1 hk).1).trans hk⟩ ⟨fun k hk => hb3.block k (Nat.lt_of_lt_of_le hk hsz8), fun k cs t _ hr => hr.below hb3 hr.lt⟩ ⟨⟨HI.out.1.ci.more hb3, HI.out.1.b8.below hb3 HI.out.1.b8.lt, by_kept HI.out.1.by_ (keepR_below hb3), HI.out.1.mks.kept (fun k o h _ _ => (hb3.block k (Array.getElem?_eq_some_iff.1 h).1).trans h)⟩, Nat.le_trans hsz8 hb3.size, HI.out.2.2⟩ ⟨W.heap.size, hsz8, hr3, _, _, rfl, rfl⟩
        case body =>
          rintro l pre x a' W hl ⟨rr, hrr⟩ ⟨hCH, hsz, hall⟩ ⟨b10, n1, r10, v28, v29, hv28, rfl⟩ hlt
          have HCH := Lib.hid hCH
          have hci := hCH.ci
          obtain ⟨A7, cc7, b57, _⟩ := hci.b5
          have hil : us + x.1 < L.length := il_lt x.2 HCS.out.2 hul
          have hi3 : us + x.1 ≤ 100000 := Nat.le_trans (Nat.le_of_lt hil) (Nat.le_trans hm (by decide))
          have hsw := hs.below hci.below
          have HY64 := Lib.hid (hsw.len64 (us + x.1) hil)
          have HYR := Lib.hid (hsw.at (us + x.1) hil)
          have R3 := Lib.hid hci.b3
          have R5 := Lib.hid b57
          have R10 := Lib.hid r10
          have HALL := Lib.hid hall
          have HSZW := Lib.hid hsz
          have HRR := Lib.hid hrr
          have HPL0 : (partM t fs.length b x.1).length = 64 := partM_len _ _ _ _
          clear hCH hci b57 hsw r10 hall hrr
          obtain ⟨i, hie⟩ : ∃ i, x.1 = i := ⟨_, rfl⟩
          have HIE := Lib.hid hie
          rw [hie] at hil hi3 HY64 HYR R10 hv28 HPL0
          subst hv28
          clear hie
          obtain ⟨y, hy⟩ : ∃ y, L.getD (us + i) nought = y := ⟨_, rfl⟩
          have HYE := Lib.hid hy
          rw [hy] at HY64 HYR
          clear hy
          obtain ⟨pm, hpm⟩ : ∃ pm, partM t fs.length b i = pm := ⟨_, rfl⟩
          have HPE := Lib.hid hpm
          rw [hpm] at R10 HPL0
          clear hpm
          have HPL := Lib.hid HPL0
          clear HPL0
          have HIY : Hid ((Try.prog.info? 89).map (·.size) = some (bv y).length) := (show _ = _ by rw [bv_length, HY64.out]; exact size39)
          have HIP : Hid ((Try.prog.info? 89).map (·.size) = some (bv pm).length) := (show _ = _ by rw [bv_length, HPL.out]; exact size39)
          have hwr : wrap64 ((us : Int) + (i : Int)) = ((us + i : Nat) : Int) := wrap_two hi3
          have hwr2 : IntKind.i64.wrap ((us : Int) + (i : Int)) = ((us + i : Nat) : Int) := wrap_two2 hi3
          have hix : ((us + i : Nat) : Int) < (L.length : Int) := Int.ofNat_lt.2 hil
          obtain ⟨j, hj⟩ : ∃ j, us + i = j := ⟨_, rfl⟩
          rw [hj] at hwr hwr2 hix HYR hil
          have HJE := Lib.hid hj
          clear hj hi3
          gi_wp2_with fail
          refine region_in2 (S := fun w' : World => Row w' w.heap.size 72 [.slice (some ⟨gs, u * 64, none⟩) L.length c] ∧ Row w' (w.heap.size + 2) 81 (ccs t A7 fs.length cc7 (usedM fs)) ∧ Row w' b10 89 (bv pm) ∧ w'.rangeAt gs (u * 64 + j * 64) (bv y)) (by kernel_rfl) (by rfl) (by rintro ⟨_, _, h⟩; exact h) ⟨R3.out, R5.out, R10.out, HYR.out⟩ (fun hHeld => ?_)
          refine wpAnyH_take (i := 0) (oi := ⟨some 30, _, _, _, _, _⟩) (v := ?v0y) rfl (by kernel_rfl) (by kernel_rfl) (by kernel_rfl) (fun _ _ _ h => h) (Or.inl ⟨by rfl, ?y0y⟩) hHeld ?r0y
          case y0y =>
            rintro w' ⟨q0, q1, q2, q3⟩
            have e3 : w'.cell? ⟨w.heap.size, 0, none⟩ = some (.slice (some ⟨gs, u * 64, none⟩) L.length c) := q0.cell 0
            go_simp
            try with_reducible rfl
          try simp only [Act.put, List.setIfInBounds_toArray, List.set_cons_zero, List.set_cons_succ]
          refine wpAnyH_take (i := 1) (oi := ⟨some 31, _, _, _, _, _⟩) (v := ?v1y) rfl (by kernel_rfl) (by kernel_rfl) (by kernel_rfl) (fun _ _ _ h => h) (Or.inl ⟨by rfl, ?y1y⟩) hHeld ?r1y
          case y1y =>
            rintro w' ⟨q0, q1, q2, q3⟩
            go_simp
            try with_reducible rfl
          try simp only [Act.put, List.setIfInBounds_toArray, List.set_cons_zero, List.set_cons_succ]
          refine wpAnyH_take (i := 2) (oi := ⟨some 32, _, _, _, _, _⟩) (v := ?v2y) rfl (by kernel_rfl) (by kernel_rfl) (by kernel_rfl) (fun _ _ _ h => h) (Or.inl ⟨by rfl, ?y2y⟩) hHeld ?r2y
          case y2y =>
            rintro w' ⟨q0, q1, q2, q3⟩
            have e5 : w'.cell? ⟨w.heap.size + 2, 2, none⟩ = some (.int .i64 (us : Int)) := by
              have h := q1.cell 2
              rw [HUS.out] at h
              exact h
            go_simp
            try with_reducible rfl
          try simp only [Act.put, List.setIfInBounds_toArray, List.set_cons_zero, List.set_cons_succ]
          refine wpAnyH_take (i := 3) (oi := ⟨some 33, _, _, _, _, _⟩) (v := ?v3y) rfl (by kernel_rfl) (by kernel_rfl) (by kernel_rfl) (fun _ _ _ h => h) (Or.inl ⟨by rfl, ?y3y⟩) hHeld ?r3y
          case y3y =>
            rintro w' ⟨q0, q1, q2, q3⟩
            go_simp
            try with_reducible rfl
          try simp only [Act.put, List.setIfInBounds_toArray, List.set_cons_zero, List.set_cons_succ]
          refine wpAnyH_take (i := 4) (oi := ⟨some 34, _, _, _, _, _⟩) (v := ?v4y) rfl (by kernel_rfl) (by kernel_rfl) (by kernel_rfl) (fun _ _ _ h => h) (Or.inl ⟨by rfl, ?y4y⟩) hHeld ?r4y
          case y4y =>
            rintro w' ⟨q0, q1, q2, q3⟩
            go_simp
            try with_reducible rfl
          try simp only [Act.put, List.setIfInBounds_toArray, List.set_cons_zero, List.set_cons_succ]
          refine wpAnyH_take (i := 5) (oi := ⟨some 35, _, _, _, _, _⟩) (v := ?v5y) rfl (by kernel_rfl) (by kernel_rfl) (by kernel_rfl) (fun _ _ _ h => h) (Or.inl ⟨by rfl, ?y5y⟩) hHeld ?r5y
          case y5y =>
            rintro w' ⟨q0, q1, q2, q3⟩
            go_simp
            try with_reducible rfl
          try simp only [Act.put, List.setIfInBounds_toArray, List.set_cons_zero, List.set_cons_succ]
          refine wpAnyH_take (i := 6) (oi := ⟨some 36, _, _, _, _, _⟩) rfl (by kernel_rfl) (by kernel_rfl) (by kernel_rfl) (fun _ _ _ h => h) (yieldsIf_load_mid (by rfl) 89 (.tmp 35) rfl gs (u * 64 + j * 64) ?x6y (bv y) _ (fun _ hS => hS.2.2.2) Try.underlying89 rfl HIY.out) hHeld ?r6y
          case x6y => first | rfl | (simp [Act.eval, go_sem]; done)
          try simp only [Act.put, List.setIfInBounds_toArray, List.set_cons_zero, List.set_cons_succ]
          refine wpAnyH_take (i := 7) (oi := ⟨some 37, _, _, _, _, _⟩) rfl (by kernel_rfl) (by kernel_rfl) (by kernel_rfl) (fun _ _ _ h => h) (yieldsIf_load_mid (by rfl) 89 (.tmp 10) rfl b10 0 ?x7y (bv pm) _ (fun _ hS => Row.all hS.2.2.1) Try.underlying89 rfl HIP.out) hHeld ?r7y
          case x7y => first | rfl | (simp [Act.eval, go_sem]; done)
          try simp only [Act.put, List.setIfInBounds_toArray, List.set_cons_zero, List.set_cons_succ]
          refine wpAnyH_take (i := 8) (oi := ⟨some 38, _, _, _, _, _⟩) rfl (by kernel_rfl) (by kernel_rfl) (by kernel_rfl) (fun _ _ _ h => h) (yields_neq_blk (by rfl) (.tmp 36) (.tmp 37) rfl y pm rfl rfl HY64.out HPL.out) hHeld ?r8y
          try simp only [Act.put, List.setIfInBounds_toArray, List.set_cons_zero, List.set_cons_succ]
          refine wpAnyH_done (by kernel_rfl) ?_ _
          have hgr : W.grownBy W.drew none := below_grown (Below.refl _ _).drew
          have HC2 : Hid (CH w t gs u c L fs b8 Ab b.length cb b ds W.drew) := Lib.hid (CH.own HCH.out hgr (fun r e => by cases e) (fun r e => by cases e) HM8.out)
          clear hgr
          by_cases hyp : y = pm
          · rw [show (!decide (y = pm)) = false by simp [hyp]]
            have HPP : Hid (∀ z ∈ pre ++ [x], L.getD (us + z.1) nought = partM t fs.length b z.1) := Lib.hid fun z hz => by
              rcases List.mem_append.1 hz with h | h
              · exact HALL.out z h
              · rw [List.mem_singleton.1 h, HIE.out, HYE.out, HPE.out, hyp]
            clear hyp
            gi_wp2
            exact ⟨⟨Nat.le_refl _, fun k o _ h _ => h⟩, KT.refl _ _, HC2.out, HSZW.out, HPP.out⟩
          · rw [show (!decide (y = pm)) = true by simp [hyp]]
            have HPP : Hid (∃ z ∈ pre ++ [x], L.getD (us + z.1) nought ≠ partM t fs.length b z.1) := Lib.hid ⟨x, by simp, by rw [HIE.out, HYE.out, HPE.out]; exact hyp⟩
            clear hyp
            gi_wp2
            exact ⟨⟨Nat.le_refl _, fun k o _ h _ => h⟩, rfl, HC2.out, HPP.out⟩
        case done =>
          rintro D xs W hD hS ⟨hCH, hsz, hall⟩ hK
          have HMK9 : Hid (Mks w.heap.size (D :: ds) W) := Lib.hid (hCH.mks.cons (Nat.le_trans HC8.out.below.size hD) hK (fun h => by have := (Array.getElem?_eq_some_iff.1 (HM8.out.open_ D h).2).1; omega))
          have HST : Hid (standsM t fs.length (L.drop us) = some b) := Lib.hid (stands_all HCE.out (by rw [List.length_drop]; exact HCS.out.2) (fun j hj => by
            have hm2 : j ∈ xs.map (·.1) := by rw [hS]; exact List.mem_range.2 hj
            obtain ⟨y, hy, rfl⟩ := List.mem_map.1 hm2
            rw [List.getD_eq_getElem?_getD, List.getElem?_drop, ← List.getD_eq_getElem?_getD]
            exact hall y hy))
          have HCH := Lib.hid hCH
          obtain ⟨A7, cc7, b57, hf7⟩ := hCH.ci.b5
          have B57 := Lib.hid b57
          have B87 := Lib.hid hCH.b8
          obtain ⟨xv, ho7, ha7, hx7⟩ := hf7
          have HO7 := Lib.hid ho7
          have HA7 := Lib.hid ha7
          have HX7 := Lib.hid hx7
          clear hCH hsz hall hK hS b57 ho7 ha7 hx7
          have hu7 : usedM fs ≤ 100000 := by rw [HUS.out]; omega
          have hn7 : fs.length ≤ 100000 := by omega
          gi_wp2_with fail
          go_wp2_with (first
            | (with_reducible refine wpList_load_row (op := ⟨some 39, _, _, _, _, _⟩) ?_ 81 (.tmp 5) ?_ (w.heap.size + 2) 0 ?_ (ccs t A7 fs.length cc7 (usedM fs)) _ (Row.all B57.out) Try.underlying81 ?_ (HI81.out _ _ _ _ _) ?_)
            | (with_reducible refine wpList_load_row (op := ⟨some 40, _, _, _, _, _⟩) ?_ 101 (.tmp 8) ?_ b8 0 ?_ (fcs t fs.length Ab b.length cb) _ (Row.all B87.out) Try.underlying101 ?_ HI101.out ?_))
          all_goals try (first | rfl | (simp; done))
          go_wp2_with fail
          refine (with_any t fs.length cc7 (usedM fs) A7 xv t fs.length Ab b.length cb W HO7.out HCS.out.1 hu7 hn7).mono ?_
          rintro e W2 ⟨A9, c9, rfl, ho9, hp9, hg9⟩
          have hci := HCH.out.ci
          have q3 := own_apart HO7.out hg9 hci.b3 (by decide)
          have q4 := own_apart HO7.out hg9 hci.b4 (by decide)
          have q5 := own_apart HO7.out hg9 B57.out (by decide)
          have qm : Mks w.heap.size (D :: ds) W2 := HMK9.out.kept (fun k o h ho _ => own_apart2 HO7.out hg9 h ho)
          have qu : ∀ k cs, Row W k 5 cs → Row W2 k 5 cs := fun k cs h => own_apart HO7.out hg9 h (by decide)
          have qb : Below w.heap.size w W2 := hci.below.grown hg9 hci.below.size (fun j hj => HA7.out j hj)
          have Q3 := Lib.hid q3
          have Q4 := Lib.hid q4
          have Q5 := Lib.hid q5
          have QM := Lib.hid qm
          have QU := Lib.hid qu
          have QB := Lib.hid qb
          have HO9 := Lib.hid ho9
          have HP9 := Lib.hid hp9
          have hs9 := Nat.le_trans hci.sz hg9.size
          clear hci q3 q4 q5 qm qu qb ho9 hp9 hg9
          have HL9 := Lib.hid (show (ccs t A9 (fs.length + 1) c9 (usedM fs + sects b.length)).length = (ccs t A7 fs.length cc7 (usedM fs)).length from rfl)
          go_wp2_with (first
            | (with_reducible refine wpList_store_whole (op := ⟨none, _, _, _, _, _⟩) ?_ 81 (.tmp 5) (.tmp 41) ?_ (w.heap.size + 2) (ccs t A9 (fs.length + 1) c9 (usedM fs + sects b.length)) ?_ ?_ 81 (ccs t A7 fs.length cc7 (usedM fs)) Q5.out HL9.out (ccs_one _ _ _ _ _) (HI81.out _ _ _ _ _) ?_))
          all_goals try (first | rfl | (simp; done))
          intro W3 hr3 hg3
          have hk3 : KeepR W2 W3 := keepR_grown Q5.out ⟨by decide, by decide⟩ hg3
          have hfr : Frs W3 w.heap.size A9 c9 (fs ++ [b]) := Frs.snoc (W := W) HCH.out.ci.below.size HX7.out HA7.out (by have := HO7.out.1; omega) HCH.out.by_ HCS.out.1 (fun k hk => Nat.le_trans HCK.out.below.size (HAB.out k hk)) (own_keepR HO9.out (.inl rfl) hk3) HP9.out (fun k cs h => hk3 k _ cs (.inr rfl) (QU.out k cs h))
          have hul3 : usedM (fs ++ [b]) ≤ L.length := by rw [usedM_snoc, HUS.out]; have := HCS.out.2; omega
          have hr3' : Row W3 (w.heap.size + 2) 81 (ccs t A9 (fs ++ [b]).length c9 (usedM (fs ++ [b]))) := by
            rw [usedM_snoc, List.length_append]; exact hr3
          have hCI3 : CI w t gs u c L (fs ++ [b]) W3 := ⟨Q3.out.grown hg3 (fun e => by have := Option.some.inj e; omega), Q4.out.grown hg3 (fun e => by have := Option.some.inj e; omega), ⟨A9, c9, hr3', hfr⟩, QB.out.grown hg3 QB.out.size (fun j e => by have := Option.some.inj e; omega), Nat.le_trans hs9 hg3.size⟩
          have hM3 : Mks w.heap.size (D :: ds) W3 := QM.out.kept (fun k o h ho _ => (hg3.block k (Array.getElem?_eq_some_iff.1 h).1 (fun e => by
            cases e
            rw [show W2.heap[w.heap.size + 2]? = _ from Q5.out] at h
            cases h
            cases ho)).trans h)
          have hch3 : chainM t (L.length + 1) 0 L = (fs ++ [b]) ++ chainM t (L.length + 1 - (fs ++ [b]).length) (fs ++ [b]).length (L.drop (usedM (fs ++ [b]))) := by
            rw [HCH0.out, usedM_snoc, HUS.out, List.length_append]
            obtain ⟨f, hf⟩ : ∃ f, L.length + 1 - fs.length = f + 1 := ⟨L.length - fs.length, by omega⟩
            have hf2 : L.length + 1 - (fs.length + [b].length) = f := by simp only [List.length_cons, List.length_nil]; omega
            rw [hf, hf2, List.append_assoc]
            congr 1
            simp only [chainM, HST.out, List.drop_drop, List.length_cons, List.length_nil, List.cons_append, List.nil_append]
          have hfl3 : (fs ++ [b]).length ≤ usedM (fs ++ [b]) := by
            rw [usedM_snoc, HUS.out, List.length_append]; have := sects_pos b.length; simp only [List.length_cons, List.length_nil]; omega
          have hms : L.length - usedM (fs ++ [b]) < L.length - usedM fs := by
            rw [usedM_snoc, HUS.out]; have := sects_pos b.length; have := HCS.out.2; omega
          have HALL := Lib.hid (And.intro hms (And.intro hM3 (And.intro hCI3 (And.intro hul3 (And.intro hfl3 hch3)))))
          clear hr3 hg3 hk3 hfr hul3 hr3' hCI3 hM3 hch3 hfl3 hms
          go_wp2_with fail
          exact ⟨_, HALL.out.1, _, _, _, _, _, _, _, _, _, _, _, _, _, _, _, _, _, _, _, _, _, _, _, _, _, _, _, _, _, _, _, _, _, _, D :: ds, fs ++ [b], rfl, HALL.out.2.1, HALL.out.2.2.1, rfl, HALL.out.2.2.2.1, HALL.out.2.2.2.2.1, HALL.out.2.2.2.2.2⟩
        case stop =>
          rintro D cd pre W hD hS ⟨rfl, hCH, hbad⟩ hK
          have HCK := Lib.hid hCH.ci
          obtain ⟨x, _, hbad⟩ := hbad
          have HBAD : Hid ((L.drop us).getD x.1 nought ≠ partM t fs.length b x.1 ∧ x.1 < sects b.length) := Lib.hid ⟨by
            rw [List.getD_eq_getElem?_getD, List.getElem?_drop, ← List.getD_eq_getElem?_getD]; exact hbad, x.2⟩
          clear hbad
          have HMK5 : Hid (Mks w.heap.size (D :: ds) W) := Lib.hid (hCH.mks.cons (Nat.le_trans HC8.out.below.size hD) hK (fun h => by have := (Array.getElem?_eq_some_iff.1 (HM8.out.open_ D h).2).1; omega))
          gi_wp2_with fail
          obtain ⟨A7, cc7, b57, hf7⟩ := HCK.out.b5
          have B57 := Lib.hid b57
          have B54 := Lib.hid HCK.out.b4
          have HF7 := Lib.hid hf7
          have HB7 := Lib.hid HCK.out.below
          have HLD := Lib.hid (show (ccs t A7 fs.length cc7 (usedM fs)).length = (ccs 0 none 0 0 0).length from rfl)
          have HFS : Hid (chainM t (L.length + 1) 0 L = fs) := Lib.hid (by
            rw [HCH0.out]
            obtain ⟨f, hf⟩ : ∃ f, L.length + 1 - fs.length = f + 1 := ⟨L.length - fs.length, by omega⟩
            rw [hf, HUS.out]
            simp [chainM, stands_other HCE.out HBAD.out])
          clear b57 hf7
          go_wp2_with (first
            | (with_reducible refine wpList_load_row (op := ⟨some 42, _, _, _, _, _⟩) ?_ 81 (.tmp 5) ?_ (w.heap.size + 2) 0 ?_ (ccs t A7 fs.length cc7 (usedM fs)) _ (Row.all B57.out) Try.underlying81 ?_ (HI81.out _ _ _ _ _) ?_)
            | (with_reducible refine wpList_store_whole (op := ⟨none, _, _, _, _, _⟩) ?_ 81 (.tmp 4) (.tmp 42) ?_ (w.heap.size + 1) (ccs t A7 fs.length cc7 (usedM fs)) ?_ ?_ 81 (ccs 0 none 0 0 0) B54.out HLD.out (ccs_one _ _ _ _ _) (HI81.out _ _ _ _ _) ?_))
          all_goals try (first | rfl | (simp; done))
          intro w6 hr6 hg6
          have hM6 : Mks w.heap.size (D :: ds) w6 := HMK5.out.kept (fun k o h ho _ => (hg6.block k (Array.getElem?_eq_some_iff.1 h).1 (fun e => by
            cases e
            rw [show W.heap[w.heap.size + 1]? = _ from B54.out] at h
            cases h
            cases ho)).trans h)
          have hk6 : KeepR W w6 := keepR_grown B54.out ⟨by decide, by decide⟩ hg6
          have hb6 : Below w.heap.size w w6 := HB7.out.grown hg6 HB7.out.size (fun j e => by have := Option.some.inj e; omega)
          go_wp2_with fail
          show LeavesInM Fence.wide 9 Try.prog _ _ _ _ .returning w6
          exact chain_end (D :: ds) HFS.out hM6 hr6 (HF7.out.keepR hk6) hb6 rfl
end Go.Proofs.Yteemdjamgbbjhaa.Wl

/-
  Noughts for those sectors of a row that hold anything, as a sequence; the sweep behind a chain.
-/
namespace Go.Proofs.Yteemdjamgbbjhaa.Wl
set_option maxRecDepth 100000
open Go.RowKit Go.Shelf Go.Proofs.Yteemdjamgbbjhaa.Wd Go.Proofs.Yteemdjamgbbjhaa.Dsk Go.Proofs.Yteemdjamgbbjhaa.Oct Go.Proofs.Yteemdjamgbbjhaa.Sum

attribute [local go_sem] Oper.semAt_some

/-- noughts for those of the first k that hold anything -/
def nfL (L : List (List UInt8)) (k : Nat) : List (Int × List UInt8) := (List.range k).filterMap fun (i : Nat) => if L.getD i nought = nought then none else some ((i : Int), nought)
theorem nfL_zero (L : List (List UInt8)) : nfL L 0 = [] := rfl
theorem nfL_same {L : List (List UInt8)} {k : Nat} (h : L.getD k nought = nought) : nfL L (k + 1) = nfL L k := by
  unfold nfL
  rw [List.range_succ, List.filterMap_append]
  simp only [List.filterMap_cons, List.filterMap_nil, if_pos h, List.append_nil]
theorem nfL_more {L : List (List UInt8)} {k : Nat} (h : ¬ L.getD k nought = nought) : nfL L (k + 1) = nfL L k ++ [((k : Int), nought)] := by
  unfold nfL
  rw [List.range_succ, List.filterMap_append]
  simp only [List.filterMap_cons, List.filterMap_nil, if_neg h]
theorem nfL_pre (L : List (List UInt8)) (j k : Nat) : nfL L j <+: nfL L (j + k) := by
  induction k with
  | zero => exact List.prefix_refl _
  | succ k ih =>
    refine ih.trans ?_
    rw [← Nat.add_assoc]
    by_cases h : L.getD (j + k) nought = nought
    · rw [nfL_same h]; exact List.prefix_refl _
    · rw [nfL_more h]; exact List.prefix_append _ _
theorem nfL_lt {L : List (List UInt8)} {k n : Nat} (h : ¬ L.getD k nought = nought) (hk : k < n) : (nfL L k).length < (nfL L n).length := by
  have h1 := (nfL_pre L (k + 1) (n - (k + 1))).length_le
  rw [nfL_more h, List.length_append, show k + 1 + (n - (k + 1)) = n by omega] at h1
  simp only [List.length_cons, List.length_nil] at h1
  omega
theorem nfL_most (L : List (List UInt8)) (k : Nat) : (nfL L k).length ≤ k := by
  have := List.length_filterMap_le (fun (i : Nat) => if L.getD i nought = nought then none else some ((i : Int), nought)) (List.range k)
  rw [List.length_range] at this
  exact this
theorem nfL_nil {L : List (List UInt8)} (h : ∀ x ∈ L, x = nought) (k : Nat) : nfL L k = [] := by
  induction k with
  | zero => rfl
  | succ k ih =>
    rw [nfL_same, ih]
    by_cases hk : k < L.length
    · rw [List.getD_eq_getElem?_getD, List.getElem?_eq_getElem hk]
      exact h _ (List.getElem_mem hk)
    · rw [List.getD_eq_getElem?_getD, List.getElem?_eq_none (by omega)]; rfl
set_option maxHeartbeats 4000000 in
theorem nfor_in (l Bf nn c : Nat) (A : Option Addr) (L : List (List UInt8)) (hnn : 1 ≤ nn) (hn : L.length ≤ 100000) (K0 : Nat → Prop) (J Jx : List IB → World → Prop) (W : World) (hJ : AbidesFrom W.heap.size J)
    (hY : ∀ pre x W1, J pre W1 → pre.length < (nfL L L.length).length → YieldAt Fence.wide (nn - 1) Try.prog l (encI x) W1 fun e W' =>
      (e = .returned (.bool true) ∧ J (pre ++ [x]) W' ∧ KT K0 W1 W') ∨ (e = .returned (.bool false) ∧ Jx (pre ++ [x]) W'))
    (hf : W.cell? ⟨Bf, 0, none⟩ = some (.slice A L.length c)) (hs : Bls W K0 A L) (hlt : ∀ k, K0 k → k < W.heap.size) (h0 : J [] W) :
    CallsIn Fence.wide nn Try.prog 99 #[.func (.yield l) #[] #[], .pointer (some ⟨Bf, 0, none⟩)] W fun e W' => (∃ v, e = .returned v) ∧
      ((∃ xs : List IB, xs.map (·.1) = nfL L L.length ∧ J xs W') ∨ (∃ pre : List IB, pre.map (·.1) <+: nfL L L.length ∧ Jx pre W')) := by
  have HY := Lib.hid hY
  have HJ := Lib.hid hJ
  have HS := Lib.hid hs
  have HLT := Lib.hid hlt
  clear hY hJ hs hlt
  refine callsIn_of_wp Try.func99 rfl trivial ?_ rfl
  simp only [Try.ntmps99, List.size_toArray, List.length_cons, List.length_nil, Nat.reduceAdd, Nat.reduceSub, Array.replicate_succ, Array.replicate_zero, List.push_toArray, List.append_toArray, List.nil_append, List.cons_append]
  gi_wp2_with fail
  have hlen : ∀ i, i < L.length → (L.getD i nought).length = 64 := fun i hi => by
    obtain ⟨g, o, _, _, hb⟩ := HS.out (by omega)
    exact (hb i hi).1
  gi_loopw [7] (fun i wr => ∃ (r : Nat) (xs : List IB), r ≤ L.length ∧ i = .int .i64 (r : Int) ∧ Hid (xs.map (·.1) = nfL L r) ∧ J xs wr ∧ Hid (∀ k, K0 k → wr.heap[k]? = W.heap[k]?)) (fun i _ => L.length - (intOf i).toNat)
  case atStart => exact ⟨0, [], Nat.zero_le _, rfl, (show _ = _ from rfl), h0, (fun _ _ => rfl)⟩
  case round =>
    obtain ⟨r, xs, hrn, rfl, HXS, hJs, HK⟩ := hrel
    by_cases hlt : r < L.length
    · have h1 : (r : Int) < (L.length : Int) := by omega
      obtain ⟨g, o, rfl, hK, hbk⟩ := HS.out (by omega)
      obtain ⟨x, hx⟩ : ∃ x, x = L.getD r nought := ⟨_, rfl⟩
      have hb := hbk r hlt
      rw [← hx] at hb
      have HB := Lib.hid (range_same hb.2 (HK.out g hK))
      have HX := Lib.hid hb.1
      have HIX : Hid ((Try.prog.info? 89).map (·.size) = some (bv x).length) := (show _ = _ by rw [bv_length, HX.out]; exact size39)
      have HGX := Lib.hid hx
      clear hb hbk hx
      gi_wp2_with (first
        | (with_reducible refine wpListIn_load_mid (op := ⟨some 11, _, _, _, _, _⟩) ?_ 89 (.tmp 10) ?_ g (o + r * 64) ?_ (bv x) _ HB.out Try.underlying89 ?_ HIX.out ?_)
        | (with_reducible refine wpListIn_store_in (op := ⟨none, _, _, _, _, _⟩) ?_ 89 (.tmp 4) (.tmp 11) ?_ wr.heap.size 0 (bv x) ?_ ?_ 89 (bv nought) ?hrow ?hfit bv_one HIX.out ?_))
      case hrow => exact Row.new wr 89 (bv nought)
      case hfit => rw [bv_length, bv_length, HX.out]; exact Nat.le_refl _
      all_goals try (first | rfl | (simp; done))
      intro wa hra hga
      rw [splice_all (bv nought) (bv x) (by rw [bv_length, bv_length, HX.out]; rfl)] at hra
      have hba : Below wr.heap.size wr wa := ((Below.refl wr.heap.size wr).alloc (Nat.le_refl _) _).grown hga (by simp) (fun k hk => by cases hk; exact Nat.le_refl _)
      have hJa : J xs wa := HJ.out _ _ _ none hJs (below_grown hba) (fun r e => by cases e)
      have RA := Lib.hid hra
      have HJA := Lib.hid hJa
      have HKA : Hid (∀ k, K0 k → wa.heap[k]? = W.heap[k]?) := (fun k hk => (hba.block k (kept_lt (HK.out k hk) (HLT.out k hk))).trans (HK.out k hk))
      clear hra hga hJa hJs hba
      have HHL := Lib.hid hlen
      clear hlen
      gi_wp2_with (first
        | (with_reducible refine wpListIn_load_mid (op := ⟨some 12, _, _, _, _, _⟩) ?_ 89 (.tmp 4) ?_ wr.heap.size 0 ?_ (bv x) _ (Row.all RA.out) Try.underlying89 ?_ HIX.out ?_))
      all_goals try (first | rfl | (simp; done))
      gi_wp2_with fail
      refine ⟨trivial, callsIn_wide.2 ?_⟩
      refine (written_any x wa HX.out).mono ?_
      rintro e wd ⟨rfl, hbd⟩
      have HJD : Hid (J xs wd) := HJ.out _ _ _ none HJA.out (below_grown hbd) (fun r e => by cases e)
      have HKD : Hid (∀ k, K0 k → wd.heap[k]? = W.heap[k]?) := (fun k hk => (hbd.block k (kept_lt (HKA.out k hk) (HLT.out k hk))).trans (HKA.out k hk))
      clear hbd
      by_cases hnx : x = nought
      · rw [show decide (x ≠ nought) = false by simp [hnx]]
        have hsame : nfL L (r + 1) = nfL L r := nfL_same (by rw [← HGX.out]; exact hnx)
        have HXS2 : Hid (xs.map (·.1) = nfL L (r + 1)) := (show _ = _ by rw [hsame]; exact HXS.out)
        clear hsame hnx
        gi_wp2_with fail
        refine ⟨fun f h => (by cases h), ?_⟩
        gi_wp2
        go_roundw
        case rel => exact ⟨r + 1, xs, by omega, by go_num, HXS2, HJD.out, HKD⟩
        case measure =>
          simp [intOf]
          omega
      · rw [show decide (x ≠ nought) = true by simp [hnx]]
        have hnx2 : ¬ L.getD r nought = nought := by rw [← HGX.out]; exact hnx
        have hlx : xs.length < (nfL L L.length).length := by
          have := congrArg List.length HXS.out
          rw [List.length_map] at this
          rw [this]
          exact nfL_lt hnx2 hlt
        obtain ⟨y, hy0⟩ : ∃ y : IB, y.1 = ((r : Int), nought) := ⟨⟨((r : Int), nought), by omega, by omega, rfl⟩, rfl⟩
        have HXS2 : Hid ((xs ++ [y]).map (·.1) = nfL L (r + 1)) := (show _ = _ by rw [List.map_append, nfL_more hnx2, HXS.out]; simp [hy0])
        obtain ⟨fn, tmps, assign, body, hy, hR⟩ := HY.out _ y wd HJD.out hlx
        unfold encI at hy
        rw [hy0] at hy
        dsimp only at hy
        rw [show blk nought = .agg #[.int .u8 0, .int .u8 0, .int .u8 0, .int .u8 0, .int .u8 0, .int .u8 0, .int .u8 0, .int .u8 0, .int .u8 0, .int .u8 0, .int .u8 0, .int .u8 0, .int .u8 0, .int .u8 0, .int .u8 0, .int .u8 0, .int .u8 0, .int .u8 0, .int .u8 0, .int .u8 0, .int .u8 0, .int .u8 0, .int .u8 0, .int .u8 0, .int .u8 0, .int .u8 0, .int .u8 0, .int .u8 0, .int .u8 0, .int .u8 0, .int .u8 0, .int .u8 0, .int .u8 0, .int .u8 0, .int .u8 0, .int .u8 0, .int .u8 0, .int .u8 0, .int .u8 0, .int .u8 0, .int .u8 0, .int .u8 0, .int .u8 0, .int .u8 0, .int .u8 0, .int .u8 0, .int .u8 0, .int .u8 0, .int .u8 0, .int .u8 0, .int .u8 0, .int .u8 0, .int .u8 0, .int .u8 0, .int .u8 0, .int .u8 0, .int .u8 0, .int .u8 0, .int .u8 0, .int .u8 0, .int .u8 0, .int .u8 0, .int .u8 0, .int .u8 0] from rfl] at hy
        clear hnx hnx2 hlx hy0
        gi_wp2
        refine hR.mono ?_
        rintro e W3 (⟨rfl, hJ3, hk3⟩ | ⟨rfl, hJx3⟩)
        · have HK3 : Hid ((∀ k, K0 k → W3.heap[k]? = W.heap[k]?)) := (fun k hk => (hk3.1 k hk).trans (HKD.out k hk))
          clear hk3 hR hy
          gi_wp2
          go_roundw
          case rel => exact ⟨r + 1, _, by omega, by go_num, HXS2, hJ3, HK3⟩
          case measure =>
            simp [intOf]
            omega
        · gi_wp2
          refine bodyPost_ret (results_none rfl _ _ _) rfl ?_
          refine ⟨⟨_, rfl⟩, .inr ⟨_, ?_, hJx3⟩⟩
          rw [HXS2.out]
          have := nfL_pre L (r + 1) (L.length - (r + 1))
          rwa [show r + 1 + (L.length - (r + 1)) = L.length by omega] at this
    · have h1 : ¬ (r : Int) < (L.length : Int) := by omega
      obtain rfl : r = L.length := by omega
      gi_wp2
      go_end0
      exact ⟨⟨_, rfl⟩, .inl ⟨_, HXS.out, hJs⟩⟩
theorem nfor_seq {w : World} {F : Nat → Prop} {Bf c : Nat} {A : Option Addr} {L : List (List UInt8)} (hn : L.length ≤ 100000) (hf : Row w Bf 72 [.slice A L.length c]) (hs : Bls w (fun k => k < w.heap.size ∧ ¬ F k) A L) :
    ∀ w1, Below w.heap.size w w1 → SeqStopsK Fence.wide 8 Try.prog 99 #[.pointer (some ⟨Bf, 0, none⟩)] encI (KT (fun k => k < w.heap.size ∧ ¬ F k)) (fun xs => xs.map (·.1) = nfL L L.length) (fun pre => pre.map (·.1) <+: nfL L L.length) (nfL L L.length).length w1 := by
  intro w1 hb1 l J Jx W hW hJ hJx hY h0
  have hb : Below w.heap.size w W := hb1.trans (hW.mono hb1.size)
  refine nfor_in l Bf 8 c A L (by omega) hn _ J Jx W hJ hY ((hf.below hb hf.lt).cell 0) (fun hp => ?_) (fun k hk => Nat.lt_of_lt_of_le hk.1 hb.size) h0
  obtain ⟨g, o, e, hk, hbk⟩ := hs hp
  exact ⟨g, o, e, hk, hbk.same (hb.block g hk.1)⟩
end Go.Proofs.Yteemdjamgbbjhaa.Wl
