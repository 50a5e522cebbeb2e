/-
  Part 5 of the contracts that the law rests on.
-/
import Derived.OrdersHeld
import Derived.Laws.BytesArg
import Derived.WideShapes
import Derived.Lib.SlBytesConst
import Derived.Test.YteemdjamgbbjhaaRows
import Derived.ProofKit
import Derived.OpenShut
import Derived.ChangeOld
import Derived.Below
import Derived.SizedLaws
import Derived.Deep.CondSized
import Derived.JoinedCond
import Derived.Deep.Grids
import Derived.Deep.Cut
import Derived.Deep.CutRange
import Derived.Test.YteemdjamgbbjhaaKp1
import Derived.Test.YteemdjamgbbjhaaKp2
import Derived.Test.YteemdjamgbbjhaaKp3
import Derived.Test.YteemdjamgbbjhaaKp4
/-
  The sweep behind a chain.
-/
namespace Go.Proofs.Yteemdjamgbbjhaa.Wl
set_option maxRecDepth 100000
open Go.RowKit Go.Shelf Go.Proofs.Yteemdjamgbbjhaa.Wd Go.Proofs.Yteemdjamgbbjhaa.Dsk Go.Proofs.Yteemdjamgbbjhaa.Oct Go.Proofs.Yteemdjamgbbjhaa.Sum

/-- the sweep over the sectors L -/
def sweepM (L : List (List UInt8)) (f : Int) (d : DM) : DM × Int := if (∀ x ∈ L, x = nought) ∧ d.pend = [] then (d, 0) else layM (nfL L L.length) f d
theorem Sect.bls {w : World} {K : Nat → Prop} {gs u : Nat} {L : List (List UInt8)} (h : Sect w gs u L) (hk : K gs) : Bls w K (some ⟨gs, u * 64, none⟩) L := fun _ => ⟨gs, u * 64, rfl, hk, fun i hi => ⟨h.len64 i hi, h.at i hi⟩⟩
/-- what a sweep answers and leaves -/
def Swp (w w' : World) (F : Nat → Prop) (g dg area t n c used : Nat) (A : Option Addr) (br : Bool) (x : DM × Int) (e : Ending) : Prop :=
  e = .returned (.int .i64 x.2) ∧ ∃ F', Dk w' F' dg x.1 ∧ Ext F F' w w' ∧ Off (fun k => F k ∨ k = g) w w' ∧ Row w' g 83 (wcs dg area t A n c used (br || decide (x.2 ≠ 0)))
set_option maxHeartbeats 4000000 in
theorem sweep_any (g dg area t n c used gs u cc : Nat) (A : Option Addr) (br : Bool) (L : List (List UInt8)) (d : DM) (F : Nat → Prop) (w : World)
    (hw : Row w g 83 (wcs dg area t A n c used br)) (hd : Dk w F dg d) (hs : Sect w gs u L) (hc : L.length ≤ cc) (hgs : gs < w.heap.size ∧ ¬ F gs) (hm : L.length ≤ 1000) (ha : area ≤ 1000) (ht : t < 4294967296) (hu : used ≤ 2000) (hp : d.pend.length ≤ 900000) :
    Calls Try.prog 64 #[.pointer (some ⟨g, 0, none⟩), .slice (some ⟨gs, u * 64, none⟩) L.length cc] w fun e w' => Swp w w' F g dg area t n c used A br (sweepM L ((2 + t % 2 * area + used : Nat) : Int) d) e := by
  have mixed : Try.prog.follows .mixedOrders = true := by kernel_rfl
  have HW := Lib.hid hw
  have HD := Lib.hid hd
  have HS := Lib.hid hs
  have HG := Lib.hid hgs
  clear hw hd hs hgs
  have hf : 2 + t % 2 * area + used ≤ 10000 := by
    have : t % 2 * area ≤ 1 * 1000 := Nat.mul_le_mul (by omega) ha
    omega
  have HF := Lib.hid hf
  clear hf
  go_enter Try.func64, Try.ntmps64
  go_wp2_with fail
  refine (contains_any gs u cc L w HS.out hc hm).mono ?_
  rintro e w1 ⟨⟨r, rfl, hr⟩, hb1⟩
  have HB1 := Lib.hid hb1
  have HR := Lib.hid hr
  have HW1 := Lib.hid (HW.out.below hb1 HW.out.lt)
  have HD1 := Lib.hid (HD.out.below hb1)
  have HS1 := Lib.hid (HS.out.below hb1)
  clear hb1 hr
  cases r with
  | true =>
    have HM : Hid (sweepM L ((2 + t % 2 * area + used : Nat) : Int) d = layM (nfL L L.length) ((2 + t % 2 * area + used : Nat) : Int) d) := Lib.hid (by
      unfold sweepM
      rw [if_neg]
      rintro ⟨h, _⟩
      obtain ⟨x, hx, hn⟩ := HR.out.1 rfl
      exact hn (h x hx))
    go_wp2_with fail
    refine (end_any g dg area t n c used A br w1 HW1.out ha ht hu).mono ?_
    rintro e w2 ⟨rfl, rfl⟩
    go_wp2_with fail
    refine (nfor_any (some ⟨gs, u * 64, none⟩) L.length cc w1.drew).mono ?_
    rintro e w3 ⟨rfl, hw3⟩
    have rb : Row w3 w1.drew.heap.size 72 [.slice (some ⟨gs, u * 64, none⟩) L.length cc] := by rw [hw3]; exact Row.new _ _ _
    have hb3 : Below w1.heap.size w1 w3 := by rw [hw3]; exact ((Below.refl _ _).drew).alloc (Nat.le_refl _) _
    clear hw3
    have RB := Lib.hid rb
    have HB3 := Lib.hid (HB1.out.trans (hb3.mono HB1.out.size))
    have HW3 := Lib.hid (HW1.out.below hb3 HW1.out.lt)
    have HD3 := Lib.hid (HD1.out.below hb3)
    have HS3 := Lib.hid (HS1.out.below hb3)
    clear rb hb3
    go_wp2_with fail
    have hsq := nfor_seq (F := F) (by omega) RB.out (HS3.out.bls (K := fun k => k < w3.heap.size ∧ ¬ F k) ⟨Nat.lt_of_lt_of_le HG.out.1 HB3.out.size, HG.out.2⟩)
    have HLY := lay_dk g dg area t n c used A br (2 + t % 2 * area + used) _ _ (nfL L L.length) d F w3 HW3.out HD3.out (by have := nfL_most L L.length; omega) HF.out (enters_of Try.func99 (by kernel_rfl) rfl) hsq
    clear hsq
    refine HLY.mono ?_
    rintro e w4 ⟨rfl, F4, hd4, hx4, ho4, hr4⟩
    clear HLY
    rw [← HM.out] at hd4 hr4 ⊢
    have HE : Hid (Swp w w4 F g dg area t n c used A br (sweepM L ((2 + t % 2 * area + used : Nat) : Int) d) (.returned (.int .i64 (sweepM L ((2 + t % 2 * area + used : Nat) : Int) d).2))) := Lib.hid ⟨rfl, F4, hd4, (fun k hk => (hx4 k hk).imp id (fun h => ⟨Nat.le_trans HB3.out.size h.1, h.2⟩)), Off.behind HB3.out ho4 (fun k hk => .inl hk), hr4⟩
    clear hd4 hx4 ho4 hr4
    obtain ⟨x, hx⟩ : ∃ x, sweepM L ((2 + t % 2 * area + used : Nat) : Int) d = x := ⟨_, rfl⟩
    rw [hx] at HE ⊢
    have HX := Lib.hid hx
    clear hx
    go_wp2
    go_ret
    rw [HX.out]
    exact HE.out
  | false =>
    have c0 : w1.cell? ⟨g, 0, none⟩ = some (.pointer (some ⟨dg, 0, none⟩)) := HW1.out.cell 0
    have HN : Hid (∀ x ∈ L, x = nought) := Lib.hid fun x hx => by
      by_cases h : x = nought
      · exact h
      · have := HR.out.2 ⟨x, hx, h⟩; cases this
    go_wp2_with fail
    refine (pending_any dg d F w1 HD1.out.1 (by omega)).mono ?_
    rintro e wp ⟨rfl, _, hbp⟩
    have HBP := Lib.hid (HB1.out.trans (hbp.mono HB1.out.size))
    have HWP := Lib.hid (HW1.out.below hbp HW1.out.lt)
    have HDP := Lib.hid (HD1.out.below hbp)
    have HSP := Lib.hid (HS1.out.below hbp)
    clear hbp c0
    by_cases hz : d.pend.length = 0
    · have HM : Hid (sweepM L ((2 + t % 2 * area + used : Nat) : Int) d = (d, 0)) := Lib.hid (by
        unfold sweepM
        rw [if_pos ⟨HN.out, List.eq_nil_of_length_eq_zero hz⟩])
      have HO : Hid (Off (fun k => F k ∨ k = g) w wp) := Lib.hid (Off.of_below HBP.out)
      rw [hz]
      clear hz
      go_wp2
      go_ret
      unfold Swp
      rw [HM.out]
      exact ⟨rfl, F, HDP.out, Ext.refl _ _ _, HO.out, by simpa using HWP.out⟩
    · have HM : Hid (sweepM L ((2 + t % 2 * area + used : Nat) : Int) d = layM (nfL L L.length) ((2 + t % 2 * area + used : Nat) : Int) d) := Lib.hid (by
        unfold sweepM
        rw [if_neg]
        rintro ⟨_, h⟩
        exact hz (by rw [h]; rfl))
      have hz2 : ¬ (d.pend.length : Int) = 0 := by omega
      go_wp2_with fail
      refine (end_any g dg area t n c used A br wp HWP.out ha ht hu).mono ?_
      rintro e w2 ⟨rfl, rfl⟩
      go_wp2_with fail
      refine (nfor_any (some ⟨gs, u * 64, none⟩) L.length cc wp.drew).mono ?_
      rintro e w3 ⟨rfl, hw3⟩
      have rb : Row w3 wp.drew.heap.size 72 [.slice (some ⟨gs, u * 64, none⟩) L.length cc] := by rw [hw3]; exact Row.new _ _ _
      have hb3 : Below wp.heap.size wp w3 := by rw [hw3]; exact ((Below.refl _ _).drew).alloc (Nat.le_refl _) _
      clear hw3
      have RB := Lib.hid rb
      have HB3 := Lib.hid (HBP.out.trans (hb3.mono HBP.out.size))
      have HW3 := Lib.hid (HWP.out.below hb3 HWP.out.lt)
      have HD3 := Lib.hid (HDP.out.below hb3)
      have HS3 := Lib.hid (HSP.out.below hb3)
      clear rb hb3
      go_wp2_with fail
      have hsq := nfor_seq (F := F) (by omega) RB.out (HS3.out.bls (K := fun k => k < w3.heap.size ∧ ¬ F k) ⟨Nat.lt_of_lt_of_le HG.out.1 HB3.out.size, HG.out.2⟩)
      have HLY := lay_dk g dg area t n c used A br (2 + t % 2 * area + used) _ _ (nfL L L.length) d F w3 HW3.out HD3.out (by have := nfL_most L L.length; omega) HF.out (enters_of Try.func99 (by kernel_rfl) rfl) hsq
      clear hsq
      refine HLY.mono ?_
      rintro e w4 ⟨rfl, F4, hd4, hx4, ho4, hr4⟩
      clear HLY
      rw [← HM.out] at hd4 hr4 ⊢
      have HE : Hid (Swp w w4 F g dg area t n c used A br (sweepM L ((2 + t % 2 * area + used : Nat) : Int) d) (.returned (.int .i64 (sweepM L ((2 + t % 2 * area + used : Nat) : Int) d).2))) := Lib.hid ⟨rfl, F4, hd4, (fun k hk => (hx4 k hk).imp id (fun h => ⟨Nat.le_trans HB3.out.size h.1, h.2⟩)), Off.behind HB3.out ho4 (fun k hk => .inl hk), hr4⟩
      clear hd4 hx4 ho4 hr4
      obtain ⟨x, hx⟩ : ∃ x, sweepM L ((2 + t % 2 * area + used : Nat) : Int) d = x := ⟨_, rfl⟩
      rw [hx] at HE ⊢
      have HX := Lib.hid hx
      clear hx
      go_wp2
      go_ret
      rw [HX.out]
      exact HE.out
end Go.Proofs.Yteemdjamgbbjhaa.Wl

/-
  Open.
-/
namespace Go.Proofs.Yteemdjamgbbjhaa.Wl
set_option maxRecDepth 100000
open Go.RowKit Go.Shelf Go.Proofs.Yteemdjamgbbjhaa.Wd Go.Proofs.Yteemdjamgbbjhaa.Dsk Go.Proofs.Yteemdjamgbbjhaa.Oct Go.Proofs.Yteemdjamgbbjhaa.Sum

theorem rdM_pend (is : List Int) : ∀ d : DM, (rdM is d).1.pend = d.pend := by
  have h1 : ∀ (d : DM) (i : Int), (d.readM i).1.pend = d.pend := fun d i => by
    unfold DM.readM
    split
    · exact pre_pend d i false
    · exact pre_pend d i false
  induction is with
  | nil => intro d; rfl
  | cons j is ih =>
    intro d
    show (if _ then _ else _ : DM × List (List UInt8) × Int).1.pend = _
    split
    · exact h1 d j
    · exact (ih _).trans (h1 d j)
theorem stands_claims {t k : Nat} {s : List (List UInt8)} {b : List UInt8} (h : standsM t k s = some b) : claimedM s = some b := by
  unfold standsM at h
  revert h
  cases hc : claimedM s with
  | none => intro h; cases h
  | some c =>
    intro h
    have h2 : (if partsM t k c = s.take (sects c.length) then some c else none) = some b := h
    split at h2
    · rw [← Option.some.inj h2]
    · cases h2
theorem chain_fits (t : Nat) : ∀ (f k : Nat) (s : List (List UInt8)), (∀ x ∈ s, x.length = 64) → usedM (chainM t f k s) ≤ s.length ∧ ∀ b ∈ chainM t f k s, b.length ≤ 40000 := by
  intro f
  induction f with
  | zero => intro k s _; exact ⟨Nat.zero_le _, fun b hb => by cases hb⟩
  | succ f ih =>
    intro k s h64
    have hc : chainM t (f + 1) k s = match standsM t k s with | none => [] | some b => b :: chainM t f (k + 1) (s.drop (sects b.length)) := rfl
    cases hs : standsM t k s with
    | none => rw [hc, hs]; exact ⟨Nat.zero_le _, fun b hb => by cases hb⟩
    | some b =>
      rw [hc, hs]
      have h1 := claimed_some h64 (stands_claims hs)
      have h2 := ih (k + 1) (s.drop (sects b.length)) (fun x hx => h64 x (List.mem_of_mem_drop hx))
      rw [List.length_drop] at h2
      refine ⟨?_, fun c hc => ?_⟩
      · show usedM (b :: _) ≤ _
        have : ∀ l : List (List UInt8), usedM (b :: l) = sects b.length + usedM l := fun l => rfl
        rw [this]
        omega
      · rcases List.mem_cons.1 hc with rfl | hc
        · exact h1.1
        · exact h2.2 c hc
theorem used_most (fs : List (List UInt8)) : fs.length ≤ usedM fs := by
  induction fs with
  | nil => exact Nat.le_refl _
  | cons b fs ih =>
    have : usedM (b :: fs) = sects b.length + usedM fs := rfl
    have := sects_pos b.length
    rw [List.length_cons]
    omega
theorem heads_good {L : List (List UInt8)} {n : Nat} : ∀ {k : Nat} {m : Nat × Nat}, headsH L n k = some m → m.1 < 4294967296 ∧ 4 ≤ m.2 ∧ m.2 ≤ 1000 ∧ 2 + 2 * m.2 ≤ n := by
  intro k
  induction k with
  | zero => intro m h; cases h
  | succ k ih =>
    intro m h
    have hs : headsH L n (k + 1) = stepH (L.getD k nought) k n (headsH L n k) := rfl
    rw [hs] at h
    unfold stepH at h
    split at h
    · rename_i hr
      have e := Option.some.inj h
      rw [← e]
      have h1 := hr.1
      unfold rightH at h1
      simp only [Bool.and_eq_true, decide_eq_true_eq] at h1
      exact ⟨num4_lt _, h1.2.2⟩
    · exact ih h
/-- what an Open does: the disk, its error, and the log's turn, area and frames -/
def openM (d : DM) : DM × Int × (Nat × Nat × List (List UInt8)) :=
  if (rdM (idxs 0 2) d).2.2 ≠ 0 then ((rdM (idxs 0 2) d).1, (rdM (idxs 0 2) d).2.2, (0, 0, []))
  else match headsH (rdM (idxs 0 2) d).2.1 d.sec.length 2 with
  | none => ((rdM (idxs 0 2) d).1, 140, (0, 0, []))
  | some m =>
    if (rdM (idxs (2 + m.1 % 2 * m.2) m.2) (rdM (idxs 0 2) d).1).2.2 ≠ 0 then ((rdM (idxs (2 + m.1 % 2 * m.2) m.2) (rdM (idxs 0 2) d).1).1, (rdM (idxs (2 + m.1 % 2 * m.2) m.2) (rdM (idxs 0 2) d).1).2.2, (0, 0, []))
    else if chainM m.1 (m.2 + 1) 0 (rdM (idxs (2 + m.1 % 2 * m.2) m.2) (rdM (idxs 0 2) d).1).2.1 = [] then ((rdM (idxs (2 + m.1 % 2 * m.2) m.2) (rdM (idxs 0 2) d).1).1, 140, (0, 0, []))
    else
      ((sweepM ((rdM (idxs (2 + m.1 % 2 * m.2) m.2) (rdM (idxs 0 2) d).1).2.1.drop (usedM (chainM m.1 (m.2 + 1) 0 (rdM (idxs (2 + m.1 % 2 * m.2) m.2) (rdM (idxs 0 2) d).1).2.1))) ((2 + m.1 % 2 * m.2 + usedM (chainM m.1 (m.2 + 1) 0 (rdM (idxs (2 + m.1 % 2 * m.2) m.2) (rdM (idxs 0 2) d).1).2.1) : Nat) : Int) (rdM (idxs (2 + m.1 % 2 * m.2) m.2) (rdM (idxs 0 2) d).1).1).1,
       (sweepM ((rdM (idxs (2 + m.1 % 2 * m.2) m.2) (rdM (idxs 0 2) d).1).2.1.drop (usedM (chainM m.1 (m.2 + 1) 0 (rdM (idxs (2 + m.1 % 2 * m.2) m.2) (rdM (idxs 0 2) d).1).2.1))) ((2 + m.1 % 2 * m.2 + usedM (chainM m.1 (m.2 + 1) 0 (rdM (idxs (2 + m.1 % 2 * m.2) m.2) (rdM (idxs 0 2) d).1).2.1) : Nat) : Int) (rdM (idxs (2 + m.1 % 2 * m.2) m.2) (rdM (idxs 0 2) d).1).1).2,
       (m.1, m.2, chainM m.1 (m.2 + 1) 0 (rdM (idxs (2 + m.1 % 2 * m.2) m.2) (rdM (idxs 0 2) d).1).2.1))
/-- what an Open answers and leaves -/
def Opn (w w' : World) (F : Nat → Prop) (dg : Nat) (x : DM × Int × (Nat × Nat × List (List UInt8))) (e : Ending) : Prop :=
  ∃ p F', e = .returned (.tuple #[.pointer p, .int .i64 x.2.1]) ∧ Dk w' F' dg x.1 ∧ Ext F F' w w' ∧ Off F w w' ∧ (x.2.1 ≠ 0 → p = none) ∧
    (x.2.1 = 0 → ∃ g, p = some ⟨g, 0, none⟩ ∧ Log w' (fun k => w.heap.size ≤ k) g dg x.2.2.2.1 x.2.2.1 x.2.2.2.2 false ∧ x.2.2.1 < 4294967296 ∧ 4 ≤ x.2.2.2.1 ∧ x.2.2.2.1 ≤ 1000 ∧ 2 + 2 * x.2.2.2.1 ≤ x.1.sec.length ∧ usedM x.2.2.2.2 ≤ x.2.2.2.1 ∧ x.2.2.2.2 ≠ [] ∧ ∀ b ∈ x.2.2.2.2, b.length ≤ 40000)
theorem lay_sec (L : List (Int × List UInt8)) (f : Int) (d : DM) : (layM L f d).1.sec.length = d.sec.length := by
  have hw : ∀ (d : DM) (i : Int) (b : List UInt8), (d.writeM i b).1.sec.length = d.sec.length := fun d i b => by
    unfold DM.writeM
    split <;> simp [pre_sec, DM.put, DM.tally]
  have hl : ∀ (L : List (Int × List UInt8)) (d : DM), (layW L f d).1.sec.length = d.sec.length := by
    intro L
    induction L with
    | nil => intro d; rfl
    | cons p L ih =>
      intro d
      unfold layW
      split
      · exact hw _ _ _
      · exact (ih _).trans (hw _ _ _)
  have hs : ∀ d : DM, d.syncM.1.sec.length = d.sec.length := fun d => by
    unfold DM.syncM
    split <;> simp [pre_sec, DM.put, DM.tally]
  unfold layM
  split
  · exact hl _ _
  · exact (hs _).trans (hl _ _)
theorem sweep_sec (L : List (List UInt8)) (f : Int) (d : DM) : (sweepM L f d).1.sec.length = d.sec.length := by
  unfold sweepM
  split
  · rfl
  · exact lay_sec _ _ _
theorem size106b : (Try.prog.info? 106).map (·.size) = some 2 := size106
set_option maxHeartbeats 8000000 in
theorem open_any (dg : Nat) (d : DM) (F : Nat → Prop) (w : World) (hd : Dk w F dg d) (hp : d.pend.length ≤ 900000) :
    Calls Try.prog 20 #[.pointer (some ⟨dg, 0, none⟩)] w (fun e w' => Opn w w' F dg (openM d) e) := by
  have mixed : Try.prog.follows .mixedOrders = true := by kernel_rfl
  have HD := Lib.hid hd
  have HI6 := Lib.hid fun (x y : Nat) => (show (Try.prog.info? 106).map (·.size) = some (hcs x y).length from size106)
  clear hd
  go_enter Try.func20, Try.ntmps20
  go_wp2_with fail
  refine (heads_any dg d F w HD.out).mono ?_
  rintro e w1 ⟨F1, hd1, hx1, ho1, rfl⟩
  have hsec1 := rdM_sec (idxs 0 2) d
  have hpn1 := rdM_pend (idxs 0 2) d
  obtain ⟨d1, hd1e⟩ : ∃ d1, (rdM (idxs 0 2) d).1 = d1 := ⟨_, rfl⟩
  obtain ⟨L1, hL1⟩ : ∃ L1, (rdM (idxs 0 2) d).2.1 = L1 := ⟨_, rfl⟩
  obtain ⟨e1, he1⟩ : ∃ e1, (rdM (idxs 0 2) d).2.2 = e1 := ⟨_, rfl⟩
  have hr1 : rdM (idxs 0 2) d = (d1, L1, e1) := by rw [← hd1e, ← hL1, ← he1]
  rw [hd1e] at hd1 hsec1 hpn1
  rw [he1, hL1]
  have HR1 := Lib.hid hr1
  have HD1 := Lib.hid hd1
  have HX1 := Lib.hid hx1
  have HO1 := Lib.hid ho1
  have HSC := Lib.hid hsec1
  have HPN := Lib.hid (show d1.pend.length ≤ 900000 by rw [hpn1]; exact hp)
  clear hd1 hx1 ho1 hd1e hL1 he1 hr1 hsec1 hpn1 hp
  by_cases h0 : e1 = 0
  case neg =>
    rw [if_neg h0]
    have HM : Hid (openM d = (d1, e1, (0, 0, []))) := Lib.hid (by unfold openM; rw [HR1.out, if_pos h0])
    have HLH := Lib.hid fun (x y : Nat) => (show (hcs x y).length = (hcs 0 0).length from rfl)
    go_wp2_with (first
      | (with_reducible refine wpList_store_whole (op := ⟨none, _, _, _, _, _⟩) ?_ 106 (.tmp 4) (.tmp 14) ?_ w1.heap.size (hcs 0 0) ?_ ?_ 106 (hcs 0 0) ?hrow (HLH.out _ _) (hcs_one _ _) (HI6.out _ _) ?_))
    case hrow => exact Row.new w1 _ (hcs 0 0)
    all_goals try (first | rfl | (simp; done))
    intro w2 hr2 hg2
    have hb2 : Below w1.heap.size w1 w2 := ((Below.refl _ _).alloc (Nat.le_refl _) _).grown hg2 (by simp) (fun k hk => by cases hk; exact Nat.le_refl _)
    have HE : Hid (Opn w w2 F dg (openM d) (.returned (.tuple #[.pointer none, .int .i64 e1]))) := Lib.hid (by
      rw [HM.out]
      exact ⟨none, F1, rfl, HD1.out.below hb2, (fun k hk => (HX1.out k hk).imp id (fun h => ⟨h.1, Nat.lt_of_lt_of_le h.2 hb2.size⟩)), HO1.out.trans HX1.out (Off.of_below hb2), fun _ => rfl, fun h => absurd h h0⟩)
    clear hr2 hg2 hb2
    go_wp2
    exact bodyPost_ret (v := .tuple #[.pointer none, .int .i64 e1]) (by simp [results, Try.results20, go_sem]) rfl HE.out
  subst h0
  rw [if_pos rfl]
  unfold headsOut
  cases hh : headsH L1 d.sec.length 2 with
  | none =>
    have HM : Hid (openM d = (d1, 140, (0, 0, []))) := Lib.hid (by unfold openM; rw [HR1.out, if_neg (by simp)]; dsimp only; rw [hh])
    have HLH := Lib.hid fun (x y : Nat) => (show (hcs x y).length = (hcs 0 0).length from rfl)
    clear hh
    go_wp2_with (first
      | (with_reducible refine wpList_store_whole (op := ⟨none, _, _, _, _, _⟩) ?_ 106 (.tmp 4) (.tmp 14) ?_ w1.heap.size (hcs 0 0) ?_ ?_ 106 (hcs 0 0) ?hrow (HLH.out _ _) (hcs_one _ _) (HI6.out _ _) ?_))
    case hrow => exact Row.new w1 _ (hcs 0 0)
    all_goals try (first | rfl | (simp; done))
    intro w2 hr2 hg2
    have hb2 : Below w1.heap.size w1 w2 := ((Below.refl _ _).alloc (Nat.le_refl _) _).grown hg2 (by simp) (fun k hk => by cases hk; exact Nat.le_refl _)
    have HE : Hid (Opn w w2 F dg (openM d) (.returned (.tuple #[.pointer none, .int .i64 140]))) := Lib.hid (by
      rw [HM.out]
      exact ⟨none, F1, rfl, HD1.out.below hb2, (fun k hk => (HX1.out k hk).imp id (fun h => ⟨h.1, Nat.lt_of_lt_of_le h.2 hb2.size⟩)), HO1.out.trans HX1.out (Off.of_below hb2), fun _ => rfl, fun h => absurd (show (140 : Int) = 0 from h) (by decide)⟩)
    clear hr2 hg2 hb2
    go_wp2
    exact bodyPost_ret (v := .tuple #[.pointer none, .int .i64 140]) (by simp [results, Try.results20, go_sem]) rfl HE.out
  | some m =>
    obtain ⟨t, a⟩ := m
    obtain ⟨ht, ha4, ha, han⟩ := heads_good hh
    dsimp only at ht ha4 ha han
    have HH := Lib.hid hh
    have HAN := Lib.hid han
    clear hh han
    have HLH := Lib.hid fun (x y : Nat) => (show (hcs x y).length = (hcs 0 0).length from rfl)
    have hwa : IntKind.i64.wrap (a : Int) = (a : Int) := by rw [IntKind.wrap_i64]; omega
    go_wp2_with (first
      | (with_reducible refine wpList_store_whole (op := ⟨none, _, _, _, _, _⟩) ?_ 106 (.tmp 4) (.tmp 14) ?_ w1.heap.size (hcs t a) ?_ ?_ 106 (hcs 0 0) ?hrow (HLH.out _ _) (hcs_one _ _) (HI6.out _ _) ?_))
    case hrow => exact Row.new w1 _ (hcs 0 0)
    all_goals try (first | rfl | (simp; done))
    intro w2 hr2 hg2
    have hb2 : Below w1.heap.size w1 w2 := ((Below.refl _ _).alloc (Nat.le_refl _) _).grown hg2 (by simp) (fun k hk => by cases hk; exact Nat.le_refl _)
    have c1 : w2.cell? ⟨w1.heap.size, 1, none⟩ = some (.int .u32 (a : Int)) := hr2.cell 1
    have HB2 := Lib.hid hb2
    have RH2 := Lib.hid hr2
    clear hr2 hg2 hb2
    go_wp2_with fail
    refine nw fun w3 hw3 => ?_
    have rg3 : Row w3 w2.heap.size 83 (wcs dg a 0 none 0 0 0 false) := by rw [← hw3]; exact Row.new w2 _ _
    have hb3 : Below w2.heap.size w2 w3 := by rw [← hw3]; exact (Below.refl _ _).alloc (Nat.le_refl _) _
    obtain ⟨gw, hgw⟩ : ∃ gw, w2.heap.size = gw := ⟨_, rfl⟩
    obtain ⟨b4, hb4⟩ : ∃ b4, w1.heap.size = b4 := ⟨_, rfl⟩
    have HGW : Hid (w.heap.size ≤ gw) := Lib.hid (by rw [← hgw]; exact Nat.le_trans HO1.out.size HB2.out.size)
    have HB3 := Lib.hid (HB2.out.trans (hb3.mono HB2.out.size))
    have RH3 : Hid (Row w3 b4 106 (hcs t a)) := Lib.hid (by rw [← hb4]; exact RH2.out.below hb3 RH2.out.lt)
    rw [hgw] at rg3 ⊢
    rw [hb4] at c1 ⊢
    have RG3 := Lib.hid rg3
    have HD3 := Lib.hid (HD1.out.below HB3.out)
    clear hw3 rg3 hb3 hgw c1 RH2 hb4 HB2
    obtain ⟨f, hf⟩ : ∃ f, 2 + t % 2 * a = f := ⟨_, rfl⟩
    have hf10 : f ≤ 10000 := by
      have : t % 2 * a ≤ 1 * 1000 := Nat.mul_le_mul (by omega) ha
      omega
    have HFI := Lib.hid (fun W (h : Row W gw 83 (wcs dg a 0 none 0 0 0 false)) => (first_any gw dg a 0 0 0 0 none false t W h ha ht))
    rw [hf] at HFI
    have HF := Lib.hid hf
    clear hf
    refine wp_region_held_drew (S := fun W => Row W gw 83 (wcs dg a 0 none 0 0 0 false) ∧ Row W b4 106 (hcs t a)) (by kernel_rfl) ⟨RG3.out, RH3.out⟩ (fun hHeld => ?_)
    have S0 := Lib.hid hHeld
    clear hHeld
    refine wpAnyH_take (i := 0) (oi := ⟨some 26, _, _, _, _, _⟩) (v := ?vr1) rfl (by kernel_rfl) (by kernel_rfl) (by kernel_rfl) (fun _ _ _ h => h) (Or.inl ⟨by rfl, ?yr1⟩) S0.out ?rr1
    case yr1 =>
      rintro w' ⟨q0, q1⟩
      go_simp
      try with_reducible rfl
    try simp only [Act.put, List.setIfInBounds_toArray, List.set_cons_zero, List.set_cons_succ]
    refine wpAnyH_take (i := 1) (oi := ⟨some 27, _, _, _, _, _⟩) (v := ?vr2) rfl (by kernel_rfl) (by kernel_rfl) (by kernel_rfl) (fun _ _ _ h => h) (Or.inl ⟨by rfl, ?yr2⟩) S0.out ?rr2
    case yr2 =>
      rintro w' ⟨q0, q1⟩
      go_simp
      try with_reducible rfl
    try simp only [Act.put, List.setIfInBounds_toArray, List.set_cons_zero, List.set_cons_succ]
    refine wpAnyH_take (i := 2) (oi := ⟨some 28, _, _, _, _, _⟩) (v := ?vr3) rfl (by kernel_rfl) (by kernel_rfl) (by kernel_rfl) (fun _ _ _ h => h) (Or.inl ⟨by rfl, ?yr3⟩) S0.out ?rr3
    case yr3 =>
      rintro w' ⟨q0, q1⟩
      go_simp
      try with_reducible rfl
    try simp only [Act.put, List.setIfInBounds_toArray, List.set_cons_zero, List.set_cons_succ]
    refine wpAnyH_take (i := 3) (oi := ⟨some 29, _, _, _, _, _⟩) (v := ?vr4) rfl (by kernel_rfl) (by kernel_rfl) (by kernel_rfl) (fun _ _ _ h => h) (Or.inl ⟨by rfl, ?yr4⟩) S0.out ?rr4
    case yr4 =>
      rintro w' ⟨q0, q1⟩
      have c1 : w'.cell? ⟨b4, 0, none⟩ = some (.int .u32 (t : Int)) := q1.cell 0
      go_simp
      try with_reducible rfl
    try simp only [Act.put, List.setIfInBounds_toArray, List.set_cons_zero, List.set_cons_succ]
    refine wpAnyH_take (i := 5) (oi := ⟨some 31, _, _, _, _, _⟩) (v := ?vr5) rfl (by kernel_rfl) (by kernel_rfl) (by kernel_rfl) (fun _ _ _ h => h) (Or.inl ⟨by rfl, ?yr5⟩) S0.out ?rr5
    case yr5 =>
      rintro w' ⟨q0, q1⟩
      go_simp
      try with_reducible rfl
    try simp only [Act.put, List.setIfInBounds_toArray, List.set_cons_zero, List.set_cons_succ]
    refine wpAnyH_take (i := 6) (oi := ⟨some 32, _, _, _, _, _⟩) (v := ?vr6) rfl (by kernel_rfl) (by kernel_rfl) (by kernel_rfl) (fun _ _ _ h => h) (Or.inl ⟨by rfl, ?yr6⟩) S0.out ?rr6
    case yr6 =>
      rintro w' ⟨q0, q1⟩
      go_simp
      try with_reducible rfl
    try simp only [Act.put, List.setIfInBounds_toArray, List.set_cons_zero, List.set_cons_succ]
    refine wpAnyH_take (i := 7) (oi := ⟨some 33, _, _, _, _, _⟩) (v := ?vr7) rfl (by kernel_rfl) (by kernel_rfl) (by kernel_rfl) (fun _ _ _ h => h) (Or.inl ⟨by rfl, ?yr7⟩) S0.out ?rr7
    case yr7 =>
      rintro w' ⟨q0, q1⟩
      go_simp
      try with_reducible rfl
    try simp only [Act.put, List.setIfInBounds_toArray, List.set_cons_zero, List.set_cons_succ]
    refine wpAnyH_take (i := 8) (oi := ⟨some 34, _, _, _, _, _⟩) (v := ?vr8) rfl (by kernel_rfl) (by kernel_rfl) (by kernel_rfl) (fun _ _ _ h => h) (Or.inl ⟨by rfl, ?yr8⟩) S0.out ?rr8
    case yr8 =>
      rintro w' ⟨q0, q1⟩
      have c2 : w'.cell? ⟨gw, 1, none⟩ = some (.int .i64 (a : Int)) := q0.cell 1
      go_simp
      try with_reducible rfl
    try simp only [Act.put, List.setIfInBounds_toArray, List.set_cons_zero, List.set_cons_succ]
    refine wpAnyH_ready (rs := [4]) (by kernel_rfl) (by simp) ?_
    refine (AllReadyH.cons rfl (fun K hK => ?_) AllReadyH.nil)
    go_simp
    refine (HFI.out w3.drew RG3.out).mono ?_
    rintro e wx ⟨rfl, rfl⟩
    refine hK _ _ S0.out (fun _ => ?_)
    clear hK K
    try simp only [Act.put, List.setIfInBounds_toArray, List.set_cons_zero, List.set_cons_succ]
    refine wpAnyH_ready (rs := [9]) (by kernel_rfl) (by simp) ?_
    refine (AllReadyH.cons rfl (fun K hK => ?_) AllReadyH.nil)
    go_simp
    refine (rd_any dg f a d1 F1 w3.drew (HD3.out.below ((Below.refl _ _).drew)) hf10 (by omega)).mono ?_
    rintro e w9 ⟨v9, F9, rfl, hd9, hx9, ho9, hok⟩
    have hb9 : Below w1.heap.size w1 w3.drew := HB3.out.drew
    have RG9 : Hid (Row w9 gw 83 (wcs dg a 0 none 0 0 0 false)) := Lib.hid ((ho9.block gw RG3.out.lt (HD3.out.not RG3.out (by decide) (by decide) (by decide))).trans RG3.out)
    have RH9 : Hid (Row w9 b4 106 (hcs t a)) := Lib.hid ((ho9.block b4 RH3.out.lt (HD3.out.not RH3.out (by decide) (by decide) (by decide))).trans RH3.out)
    have HX9 : Hid (Ext F F9 w w9) := Lib.hid (fun k hk => by
      rcases hx9 k hk with h | h
      · rcases HX1.out k h with h | h
        · exact .inl h
        · exact .inr ⟨h.1, Nat.lt_of_lt_of_le h.2 (Nat.le_trans hb9.size ho9.size)⟩
      · exact .inr ⟨Nat.le_trans HO1.out.size (Nat.le_trans hb9.size h.1), h.2⟩)
    have HO9 : Hid (Off F w w9) := Lib.hid ((HO1.out.trans HX1.out (Off.of_below hb9)).trans (F' := F1) (fun k hk => (HX1.out k hk).imp id (fun h => ⟨h.1, Nat.lt_of_lt_of_le h.2 hb9.size⟩)) ho9)
    have HD9 := Lib.hid hd9
    have HOK := Lib.hid hok
    clear hd9 hx9 ho9 hok hb9
    refine hK _ _ ⟨RG9.out, RH9.out⟩ (fun _ => ?_)
    clear hK K
    try simp only [Act.put, List.setIfInBounds_toArray, List.set_cons_zero, List.set_cons_succ]
    refine wpAnyH_take (i := 10) (oi := ⟨some 25, _, _, _, _, _⟩) (v := ?vr11) rfl (by kernel_rfl) (by kernel_rfl) (by kernel_rfl) (fun _ _ _ h => h) (Or.inl ⟨by rfl, ?yr11⟩) ⟨RG9.out, RH9.out⟩ ?rr11
    case yr11 =>
      rintro w' ⟨q0, q1⟩
      go_simp
      try with_reducible rfl
    try simp only [Act.put, List.setIfInBounds_toArray, List.set_cons_zero, List.set_cons_succ]
    refine wpAnyH_take (i := 11) (oi := ⟨some 36, _, _, _, _, _⟩) (v := ?vr12) rfl (by kernel_rfl) (by kernel_rfl) (by kernel_rfl) (fun _ _ _ h => h) (Or.inl ⟨by rfl, ?yr12⟩) ⟨RG9.out, RH9.out⟩ ?rr12
    case yr12 =>
      rintro w' ⟨q0, q1⟩
      go_simp
      try with_reducible rfl
    try simp only [Act.put, List.setIfInBounds_toArray, List.set_cons_zero, List.set_cons_succ]
    refine wpAnyH_take (i := 12) (oi := ⟨some 37, _, _, _, _, _⟩) (v := ?vr13) rfl (by kernel_rfl) (by kernel_rfl) (by kernel_rfl) (fun _ _ _ h => h) (Or.inl ⟨by rfl, ?yr13⟩) ⟨RG9.out, RH9.out⟩ ?rr13
    case yr13 =>
      rintro w' ⟨q0, q1⟩
      go_simp
      try with_reducible rfl
    try simp only [Act.put, List.setIfInBounds_toArray, List.set_cons_zero, List.set_cons_succ]
    refine wpAnyH_take (i := 13) (oi := ⟨some 7, _, _, _, _, _⟩) (v := ?vr14) rfl (by kernel_rfl) (by kernel_rfl) (by kernel_rfl) (fun _ _ _ h => h) (Or.inl ⟨by rfl, ?yr14⟩) ⟨RG9.out, RH9.out⟩ ?rr14
    case yr14 =>
      rintro w' ⟨q0, q1⟩
      go_simp
      try with_reducible rfl
    try simp only [Act.put, List.setIfInBounds_toArray, List.set_cons_zero, List.set_cons_succ]
    refine wpAnyH_take (i := 14) (oi := ⟨some 5, _, _, _, _, _⟩) (v := ?vr15) rfl (by kernel_rfl) (by kernel_rfl) (by kernel_rfl) (fun _ _ _ h => h) (Or.inl ⟨by rfl, ?yr15⟩) ⟨RG9.out, RH9.out⟩ ?rr15
    case yr15 =>
      rintro w' ⟨q0, q1⟩
      go_simp
      try with_reducible rfl
    try simp only [Act.put, List.setIfInBounds_toArray, List.set_cons_zero, List.set_cons_succ]
    refine wpAnyH_done (by kernel_rfl) ?_ _

    have hp7 := rdM_pend (idxs f a) d1
    have hs7 := rdM_sec (idxs f a) d1
    obtain ⟨d4, hd4e⟩ : ∃ d4, (rdM (idxs f a) d1).1 = d4 := ⟨_, rfl⟩
    obtain ⟨L4, hL4⟩ : ∃ L4, (rdM (idxs f a) d1).2.1 = L4 := ⟨_, rfl⟩
    obtain ⟨e4, he4⟩ : ∃ e4, (rdM (idxs f a) d1).2.2 = e4 := ⟨_, rfl⟩
    have hr4 : rdM (idxs f a) d1 = (d4, L4, e4) := by rw [← hd4e, ← hL4, ← he4]
    rw [hd4e] at HD9 hp7 hs7
    rw [he4, hL4] at HOK
    rw [he4]
    have HR4 := Lib.hid hr4
    have HP4 := Lib.hid (show d4.pend.length ≤ 900000 by rw [hp7]; exact HPN.out)
    have HS4 := Lib.hid (show d4.sec.length = d.sec.length by rw [hs7, HSC.out])
    clear hd4e hL4 he4 hr4 hp7 hs7
    by_cases h4 : e4 = 0
    case neg =>
      have HM : Hid (openM d = (d4, e4, (0, 0, []))) := Lib.hid (by
        unfold openM
        rw [HR1.out, if_neg (by simp)]
        dsimp only
        rw [HH.out]
        dsimp only
        rw [HF.out, HR4.out, if_pos h4])
      have HE : Hid (Opn w w9 F dg (openM d) (.returned (.tuple #[.pointer none, .int .i64 e4]))) := Lib.hid (by
        rw [HM.out]
        exact ⟨none, F9, rfl, HD9.out, HX9.out, HO9.out, fun _ => rfl, fun h => absurd h h4⟩)
      clear HOK
      go_wp2
      exact bodyPost_ret (v := .tuple #[.pointer none, .int .i64 e4]) (by simp [results, Try.results20, go_sem]) rfl HE.out
    subst h4
    obtain ⟨gs, rfl, hgs, hgF, hrow, hLl, hL64⟩ := HOK.out rfl
    have hsect : Sect w9 gs 0 L4 := ⟨hL64, (by rw [Nat.zero_mul]; exact Row.front (m := []) (by rw [List.append_nil]; exact hrow) hrow.lt)⟩
    have HSE := Lib.hid hsect
    have HGS := Lib.hid (And.intro hrow.lt hgF)
    have HL4 := Lib.hid hLl
    have H64 := Lib.hid hL64
    have HRB := Lib.hid hrow
    have hc1 := (RH9.out).cell 0
    have hca := chain_any t gs 0 a L4 w9 ht hsect (by omega) (by omega)
    rw [Nat.zero_mul, hLl] at hca
    have HCA := Lib.hid hca
    clear hgs hgF hrow hLl hL64 hsect HOK hca
    have c1 : w9.cell? ⟨b4, 0, none⟩ = some (.int .u32 (t : Int)) := hc1
    clear hc1
    go_wp2_with fail
    refine HCA.out.mono ?_
    rintro e w10 ⟨A, cc, rfl, hfr, hb10⟩
    have hfit := chain_fits t (a + 1) 0 L4 H64.out
    obtain ⟨fs, hfs⟩ : ∃ fs, chainM t (a + 1) 0 L4 = fs := ⟨_, rfl⟩
    rw [hfs] at hfr hfit ⊢
    have HFS := Lib.hid hfs
    obtain ⟨us, hus⟩ : ∃ us, usedM fs = us := ⟨_, rfl⟩
    have hu2 : us ≤ a := by rw [← hus]; have := hfit.1; have := HL4.out; omega
    have HFIT := Lib.hid hfit.2
    have HUS := Lib.hid hus
    have HFR := Lib.hid hfr
    have RG10 := Lib.hid (RG9.out.below hb10 RG9.out.lt)
    have HD10 := Lib.hid (HD9.out.below hb10)
    have HSE10 := Lib.hid (HSE.out.below hb10)
    have HB10 := Lib.hid hb10
    have HI81 := Lib.hid fun (x : Nat) A (y c z : Nat) => (show (Try.prog.info? 81).map (·.size) = some (ccs x A y c z).length from size81)
    have HFT : Hid (2 + (ccs t A fs.length cc (usedM fs)).length ≤ (wcs dg a 0 none 0 0 0 false).length) := Lib.hid (show 2 + 3 ≤ 6 by decide)
    clear hfs hfr hfit hus hb10 c1 HCA
    go_wp2_with (first
      | (with_reducible refine wpList_store_in (op := ⟨none, _, _, _, _, _⟩) ?_ 81 (.tmp 47) (.tmp 45) ?_ gw 2 (ccs t A fs.length cc (usedM fs)) ?_ ?_ 83 (wcs dg a 0 none 0 0 0 false) RG10.out HFT.out (ccs_one _ _ _ _ _) (HI81.out _ _ _ _ _) ?_))
    all_goals try (first | rfl | (simp; done))
    intro w11 hr11 hg11
    rw [show splice (wcs dg a 0 none 0 0 0 false) 2 (ccs t A fs.length cc (usedM fs)) = wcs dg a t A fs.length cc (usedM fs) false from rfl] at hr11
    have hwF : w.heap.size ≤ gw := HGW.out
    have HK11 := Lib.hid (keepR_grown RG10.out ⟨by decide, by decide⟩ hg11)
    have HF11 : Hid (Frs w11 w9.heap.size A cc fs) := Lib.hid (HFR.out.keepR HK11.out)
    have HD11 := Lib.hid (HD10.out.grown RG10.out (by decide) (by decide) (by decide) hg11)
    have hgn : gs ≠ gw := fun e => absurd (row_type (HRB.out) (e ▸ RG9.out)) (by decide)
    have HGS11 : Hid (gs < w11.heap.size ∧ ¬ F9 gs) := Lib.hid ⟨Nat.lt_of_lt_of_le HGS.out.1 (Nat.le_trans HB10.out.size hg11.size), HGS.out.2⟩
    have HSE11 : Hid (Sect w11 gs 0 L4) := Lib.hid ⟨H64.out, (by
      rw [Nat.zero_mul]
      exact Row.front (m := []) (by rw [List.append_nil]; exact (HRB.out.below HB10.out HRB.out.lt).grown hg11 (fun e => hgn (Option.some.inj e))) HGS11.out.1)⟩
    have HO11 : Hid (Off F w w11) := Lib.hid ((HO9.out.trans HX9.out (Off.of_below HB10.out)).grown hg11 (fun k hk => .inr (by have := Option.some.inj hk; omega)))
    have HX11 : Hid (Ext F F9 w w11) := Lib.hid (fun k hk => (HX9.out k hk).imp id (fun h => ⟨h.1, Nat.lt_of_lt_of_le h.2 (Nat.le_trans HB10.out.size hg11.size)⟩))
    have c3 : w11.cell? ⟨gw, 3, none⟩ = some (.slice A fs.length cc) := hr11.cell 3
    have c4 : w11.cell? ⟨gw, 4, none⟩ = some (.int .i64 (us : Int)) := (hr11.cell 4).trans (by rw [← HUS.out]; rfl)
    have HR11 := Lib.hid hr11
    clear hr11 hg11 hgn HFT RG10 HD10 HSE10
    by_cases hz : fs.length = 0
    · have HM : Hid (openM d = (d4, 140, (0, 0, []))) := Lib.hid (by
        unfold openM
        rw [HR1.out, if_neg (by simp)]
        dsimp only
        rw [HH.out]
        dsimp only
        rw [HF.out, HR4.out, if_neg (by simp)]
        dsimp only
        rw [HFS.out, if_pos (List.eq_nil_of_length_eq_zero hz)])
      have HE : Hid (Opn w w11 F dg (openM d) (.returned (.tuple #[.pointer none, .int .i64 140]))) := Lib.hid (by
        rw [HM.out]
        exact ⟨none, F9, rfl, HD11.out, HX11.out, HO11.out, fun _ => rfl, fun h => absurd (show (140 : Int) = 0 from h) (by decide)⟩)
      rw [hz] at c3
      clear c4 hz
      go_wp2
      exact bodyPost_ret (v := .tuple #[.pointer none, .int .i64 140]) (by simp [results, Try.results20, go_sem]) rfl HE.out
    have hz2 : ¬ (fs.length : Int) = 0 := by omega
    have g1 : (us : Int) ≤ (a : Int) := by omega
    have g2 : (0 : Int) ≤ (us : Int) := by omega
    have HN : Hid (fs ≠ []) := Lib.hid (fun e => hz (by rw [e]; rfl))
    clear hz
    by_cases hua : us = a
    · have hdn : L4.drop us = [] := List.drop_eq_nil_of_le (by have := HL4.out; omega)
      have hsw := sweep_any gw dg a t fs.length cc (usedM fs) gs 0 0 A false (L4.drop us) d4 F9 w11 HR11.out HD11.out (by rw [hdn]; exact ⟨fun _ h => (by cases h), Bs.nil _ _ _⟩) (by rw [hdn]; exact Nat.le_refl _) HGS11.out (by rw [hdn]; exact Nat.zero_le _) ha ht (by rw [HUS.out]; omega) HP4.out
      have hdl0 : (L4.drop us).length = 0 := by rw [hdn]; rfl
      rw [HUS.out, hdl0, Nat.zero_mul] at hsw
      have HSW := Lib.hid hsw
      have g3 : (us : Int) = (a : Int) := by omega
      clear hsw hdn hdl0
      go_wp2_with fail
      refine (HSW.out).mono ?_
      rintro e w12 ⟨rfl, F12, hd12, hx12, ho12, hr12⟩
      have hss := sweep_sec (L4.drop us) ((2 + t % 2 * a + us : Nat) : Int) d4
      obtain ⟨dx, hdx⟩ : ∃ dx, (sweepM (L4.drop us) ((2 + t % 2 * a + us : Nat) : Int) d4).1 = dx := ⟨_, rfl⟩
      obtain ⟨ex, hex⟩ : ∃ ex, (sweepM (L4.drop us) ((2 + t % 2 * a + us : Nat) : Int) d4).2 = ex := ⟨_, rfl⟩
      have HM : Hid (openM d = (dx, ex, (t, a, fs))) := Lib.hid (by
        unfold openM
        rw [HR1.out, if_neg (by simp)]
        dsimp only
        rw [HH.out]
        dsimp only
        rw [HF.out, HR4.out, if_neg (by simp)]
        dsimp only
        rw [HFS.out, if_neg HN.out, HUS.out, ← HF.out, hdx, hex])
      rw [hdx] at hd12 hss
      rw [hex] at hr12 ⊢
      have HK12 := Lib.hid (keepR_off HD11.out HR11.out ho12)
      have HF12 := Lib.hid (HF11.out.keepR HK12.out)
      have HO12 : Hid (Off F w w12) := Lib.hid (by
        refine ⟨ho12.os.trans HO11.out.os, ho12.tape.trans HO11.out.tape, ho12.output.trans HO11.out.output, Nat.le_trans HO11.out.size ho12.size, fun k hk hn => (ho12.block k (Nat.lt_of_lt_of_le hk HO11.out.size) (fun h => ?_)).trans (HO11.out.block k hk hn)⟩
        rcases h with h | h
        · rcases HX11.out k h with h | h
          · exact hn h
          · omega
        · have := HGW.out; omega)
      have HX12 : Hid (Ext F F12 w w12) := Lib.hid (fun k hk => by
        rcases hx12 k hk with h | h
        · rcases HX11.out k h with h | h
          · exact .inl h
          · exact .inr ⟨h.1, Nat.lt_of_lt_of_le h.2 ho12.size⟩
        · exact .inr ⟨Nat.le_trans HO11.out.size h.1, h.2⟩)
      have HD12 := Lib.hid hd12
      have HSS := Lib.hid hss
      have HR12 := Lib.hid hr12
      have HXW : Hid (w.heap.size ≤ w9.heap.size) := Lib.hid HO9.out.size
      clear hdx hex hd12 hx12 ho12 hr12 hss HSW
      by_cases hx0 : ex = 0
      case neg =>
        have HE : Hid (Opn w w12 F dg (openM d) (.returned (.tuple #[.pointer none, .int .i64 ex]))) := Lib.hid (by
          rw [HM.out]
          exact ⟨none, F12, rfl, HD12.out, HX12.out, HO12.out, fun _ => rfl, fun h => absurd h hx0⟩)
        go_wp2
        exact bodyPost_ret (v := .tuple #[.pointer none, .int .i64 ex]) (by simp [results, Try.results20, go_sem]) rfl HE.out
      subst hx0
      have HE : Hid (Opn w w12 F dg (openM d) (.returned (.tuple #[.pointer (some ⟨gw, 0, none⟩), .int .i64 0]))) := Lib.hid (by
        rw [HM.out]
        refine ⟨some ⟨gw, 0, none⟩, F12, rfl, HD12.out, HX12.out, HO12.out, fun h => absurd rfl h, fun _ => ⟨gw, rfl, ?_, ht, ha4, ha, ?_, ?_, HN.out, HFIT.out⟩⟩
        · obtain ⟨xs, h1, h2, h3⟩ := HF12.out
          have hrow12 := HR12.out
          rw [show (false || decide ((0 : Int) ≠ 0)) = false by decide, ← HUS.out] at hrow12
          exact ⟨A, cc, xs, hrow12, h1, HGW.out, fun k hk => Nat.le_trans HXW.out (h2 k hk), fun i hi => by
            obtain ⟨Ai, ni, ci, q1, q2, q3, q4⟩ := h3 i hi
            exact ⟨Ai, ni, ci, q1, q2, q3, fun k hk => Nat.le_trans HXW.out (q4 k hk)⟩⟩
        · show 2 + 2 * a ≤ dx.sec.length
          rw [HSS.out, HS4.out]
          exact HAN.out
        · show usedM fs ≤ a
          rw [HUS.out]; exact hu2)
      go_wp2
      exact bodyPost_ret (v := .tuple #[.pointer (some ⟨gw, 0, none⟩), .int .i64 0]) (by simp [results, Try.results20, go_sem]) rfl HE.out
    have hsd : Sect w11 gs us (L4.drop us) := by
      have := HSE11.out.drop us (by rw [HL4.out]; exact hu2)
      rwa [Nat.zero_add] at this
    have hdl : (L4.drop us).length = a - us := by rw [List.length_drop, HL4.out]
    have hsw := sweep_any gw dg a t fs.length cc (usedM fs) gs us (a - us) A false (L4.drop us) d4 F9 w11 HR11.out HD11.out hsd (by omega) HGS11.out (by omega) ha ht (by rw [HUS.out]; omega) HP4.out
    rw [HUS.out, hdl] at hsw
    have HSW := Lib.hid hsw
    have g3 : ¬ (us : Int) = (a : Int) := by omega
    clear hsw hsd hdl hua
    go_wp2_with fail
    refine (HSW.out).mono ?_
    rintro e w12 ⟨rfl, F12, hd12, hx12, ho12, hr12⟩
    have hss := sweep_sec (L4.drop us) ((2 + t % 2 * a + us : Nat) : Int) d4
    obtain ⟨dx, hdx⟩ : ∃ dx, (sweepM (L4.drop us) ((2 + t % 2 * a + us : Nat) : Int) d4).1 = dx := ⟨_, rfl⟩
    obtain ⟨ex, hex⟩ : ∃ ex, (sweepM (L4.drop us) ((2 + t % 2 * a + us : Nat) : Int) d4).2 = ex := ⟨_, rfl⟩
    have HM : Hid (openM d = (dx, ex, (t, a, fs))) := Lib.hid (by
      unfold openM
      rw [HR1.out, if_neg (by simp)]
      dsimp only
      rw [HH.out]
      dsimp only
      rw [HF.out, HR4.out, if_neg (by simp)]
      dsimp only
      rw [HFS.out, if_neg HN.out, HUS.out, ← HF.out, hdx, hex])
    rw [hdx] at hd12 hss
    rw [hex] at hr12 ⊢
    have HK12 := Lib.hid (keepR_off HD11.out HR11.out ho12)
    have HF12 := Lib.hid (HF11.out.keepR HK12.out)
    have HO12 : Hid (Off F w w12) := Lib.hid (by
      refine ⟨ho12.os.trans HO11.out.os, ho12.tape.trans HO11.out.tape, ho12.output.trans HO11.out.output, Nat.le_trans HO11.out.size ho12.size, fun k hk hn => (ho12.block k (Nat.lt_of_lt_of_le hk HO11.out.size) (fun h => ?_)).trans (HO11.out.block k hk hn)⟩
      rcases h with h | h
      · rcases HX11.out k h with h | h
        · exact hn h
        · omega
      · have := HGW.out; omega)
    have HX12 : Hid (Ext F F12 w w12) := Lib.hid (fun k hk => by
      rcases hx12 k hk with h | h
      · rcases HX11.out k h with h | h
        · exact .inl h
        · exact .inr ⟨h.1, Nat.lt_of_lt_of_le h.2 ho12.size⟩
      · exact .inr ⟨Nat.le_trans HO11.out.size h.1, h.2⟩)
    have HD12 := Lib.hid hd12
    have HSS := Lib.hid hss
    have HR12 := Lib.hid hr12
    have HXW : Hid (w.heap.size ≤ w9.heap.size) := Lib.hid HO9.out.size
    clear hdx hex hd12 hx12 ho12 hr12 hss HSW
    by_cases hx0 : ex = 0
    case neg =>
      have HE : Hid (Opn w w12 F dg (openM d) (.returned (.tuple #[.pointer none, .int .i64 ex]))) := Lib.hid (by
        rw [HM.out]
        exact ⟨none, F12, rfl, HD12.out, HX12.out, HO12.out, fun _ => rfl, fun h => absurd h hx0⟩)
      go_wp2
      exact bodyPost_ret (v := .tuple #[.pointer none, .int .i64 ex]) (by simp [results, Try.results20, go_sem]) rfl HE.out
    subst hx0
    have HE : Hid (Opn w w12 F dg (openM d) (.returned (.tuple #[.pointer (some ⟨gw, 0, none⟩), .int .i64 0]))) := Lib.hid (by
      rw [HM.out]
      refine ⟨some ⟨gw, 0, none⟩, F12, rfl, HD12.out, HX12.out, HO12.out, fun h => absurd rfl h, fun _ => ⟨gw, rfl, ?_, ht, ha4, ha, ?_, ?_, HN.out, HFIT.out⟩⟩
      · obtain ⟨xs, h1, h2, h3⟩ := HF12.out
        have hrow12 := HR12.out
        rw [show (false || decide ((0 : Int) ≠ 0)) = false by decide, ← HUS.out] at hrow12
        exact ⟨A, cc, xs, hrow12, h1, HGW.out, fun k hk => Nat.le_trans HXW.out (h2 k hk), fun i hi => by
          obtain ⟨Ai, ni, ci, q1, q2, q3, q4⟩ := h3 i hi
          exact ⟨Ai, ni, ci, q1, q2, q3, fun k hk => Nat.le_trans HXW.out (q4 k hk)⟩⟩
      · show 2 + 2 * a ≤ dx.sec.length
        rw [HSS.out, HS4.out]
        exact HAN.out
      · show usedM fs ≤ a
        rw [HUS.out]; exact hu2)
    go_wp2
    exact bodyPost_ret (v := .tuple #[.pointer (some ⟨gw, 0, none⟩), .int .i64 0]) (by simp [results, Try.results20, go_sem]) rfl HE.out
end Go.Proofs.Yteemdjamgbbjhaa.Wl

/-
  A range over a function that reads on from a block of its own (it writes that block between the rounds), and tells of each element what it knows in the world of the round. Nothing here speaks of the program.
-/
namespace Go.Proofs.Yteemdjamgbbjhaa.Dsk
open Go.RowKit Go.Proofs.Yteemdjamgbbjhaa.Wd

/-- what stays over the steps that the function takes by itself -/
def Stab {α : Type} (G : World → World → Prop) (J : α → World → Prop) : Prop := ∀ s A B, J s A → G A B → J s B
/-- what does not look into the loop's own records -/
def Apart {α : Type} (B : Nat) (J : α → World → Prop) : Prop := ∀ s (W : World) l o o', B ≤ l → W.heap[l]? = some o → o.isCells = false → J s W → J s (W.putObj l o')
/-- the contract of such a function, from the world w on -/
def Feeds {α : Type} (n : Nat) (P : Program) (gf : Nat) (lb : Array Value) (encs : α → Array Value) (G : World → World → Prop) (T : List α → α → World → Prop) (Ok : α → Prop) (Kp : World → World → Prop) (S Sp : List α → World → Prop) (w : World) : Prop :=
  ∀ (l : Nat) (J Jx : List α → World → Prop) (W1 : World), Below w.heap.size w W1 → Stab G J → Stab G Jx →
    (∀ pre x W, T pre x W → J pre W → YieldAt Fence.wide (n - 1) P l (encs x) W fun e W' => (e = .returned (.bool true) ∧ Ok x ∧ J (pre ++ [x]) W' ∧ Kp W W') ∨ (e = .returned (.bool false) ∧ Jx (pre ++ [x]) W')) →
    J [] W1 →
    CallsIn Fence.wide n P gf (#[.func (.yield l) #[] #[]] ++ lb) W1 fun e W' => (∃ v, e = .returned v) ∧ ((∃ xs, S xs W' ∧ J xs W') ∨ (∃ pre, Sp pre W' ∧ Jx pre W'))

/-- how the body of a round is left: it goes on, or it returns -/
def roundEnds {α : Type} (B : Nat) (Ok : α → Prop) (Kp : World → World → Prop) (I Ix : List α → World → Prop) (pre : List α) (x : α) (W : World) : Exit → Act → World → Prop
  | .normal, _, W' => KeepsFrom B W W' ∧ Ok x ∧ Kp W W' ∧ I (pre ++ [x]) W'
  | .ret, _, W' => KeepsFrom B W W' ∧ Ix (pre ++ [x]) W'
  | _, _, _ => False

theorem range_feeds {α : Type} {P : Program} {n : Nat} {g : Operand} {ps : Array Tmp} {assign body : Code} {Q : Exit → Act → World → Prop} {a : Act} {w : World} (h1 : 1 ≤ n)
    {gf : Nat} {lb : Array Value} (hg : a.eval g = .func (.func gf) #[] lb) (eg : ∀ args w, (callFunc gf args).run P w = .ok (.enter gf args) w)
    {encs : α → Array Value} {G : World → World → Prop} {T : List α → α → World → Prop} {Ok : α → Prop} {Kp : World → World → Prop} {S Sp : List α → World → Prop} (hit : Feeds (n - 1) P gf lb encs G T Ok Kp S Sp w)
    (hKt : ∀ {A B C : World}, Kp A B → Kp B C → Kp A C) (hKb : ∀ (W : World) (l : Nat) (o o' : Obj), w.heap.size ≤ l → W.heap[l]? = some o → o.isCells = false → Kp W (W.putObj l o'))
    (hps : ∀ x, (encs x).size = ps.size)
    (I Ix : List α → World → Prop) (hG : ∀ (A B : World) k o, G A B → w.heap.size ≤ k → A.heap[k]? = some o → o.isCells = false → B.heap[k]? = some o) (hIa : ∀ s (W : World) o, I s W → I s (W.alloc o)) (hI : Stab G I) (hIx : Stab G Ix) (hIp : Apart w.heap.size I) (hIxp : Apart w.heap.size Ix) (h0 : I [] w)
    (Ax : List α → α → Act → World → Prop) (hAx : ∀ pre x a', Apart w.heap.size (fun (_ : Unit) W => Ax pre x a' W))
    (hassign : ∀ (l : Nat) (pre : List α) (x : α) (W : World) (K : Act → World → Prop), T pre x W → I pre W → (∀ a' W', KeepsFrom w.heap.size W W' → Kp W W' → I pre W' → Ax pre x a' W' → K a' W') →
      assign.wpIn (Fence.wide.inRound l) (n - 1 - 1) P (Exit.then K (fun _ _ _ => False)) { tmps := (ps.zip (encs x)).foldl (fun t (p, v) => t.setIfInBounds p v) a.tmps, defers := [] } W)
    (hbody : ∀ (l : Nat) (pre : List α) (x : α) (a' : Act) (W : World), w.heap.size ≤ l → (∃ r, W.heap[l]? = some (.loop r)) → I pre W → Ax pre x a' W → body.wpIn (Fence.wide.inRound l) (n - 1 - 1) P (roundEnds w.heap.size Ok Kp I Ix pre x W) a' W)
    (hdone : ∀ (D : Nat) (xs : List α) (W W' : World), w.heap.size ≤ D → S xs W → I xs W' → W.grownBy W' (some (w.heap.size + 1)) → W'.heap[D]? = some (.deferred (some [])) → Q .normal { a with defers := { target := .collected D, args := #[] } :: a.defers } W')
    (hstop : ∀ (D : Nat) (pre : List α) (W W' : World), w.heap.size ≤ D → Sp pre W → Ix pre W' → W.grownBy W' (some (w.heap.size + 1)) → W'.heap[D]? = some (.deferred (some [])) → (Code.ret).wpIn Fence.wide n P Q { a with defers := { target := .collected D, args := #[] } :: a.defers } W') :
    (Code.rangeFunc g ps assign body).wpIn Fence.wide n P Q a w := by
  refine wpIn_rangeFunc fun fn hfn => ?_
  rw [show Fence.wide.round = none from rfl]
  obtain ⟨B, hB⟩ : ∃ B, B = w.heap.size := ⟨_, rfl⟩
  obtain ⟨rec, hrec⟩ : ∃ rec : LoopState → Option Code → Loop, rec = fun st pe => { state := st, pending := pe, fn, tmps := a.tmps, params := ps, assign, body, defers := w.heap.size } := ⟨_, rfl⟩
  obtain ⟨W1, hW1⟩ : ∃ W1, W1 = (w.alloc (.deferred (some []))).alloc (.loop (rec .ready none)) := ⟨_, rfl⟩
  have hb1 : Below w.heap.size w W1 := by rw [hW1]; exact ((Below.refl _ _).alloc (Nat.le_refl _) _).alloc (by simp) _
  have hl1 : W1.heap[w.heap.size + 1]? = some (.loop (rec .ready none)) := by
    have := World.alloc_heap_new (w.alloc (.deferred (some []))) (.loop (rec .ready none))
    rw [World.size_alloc] at this
    rw [hW1]; exact this
  have hd1 : W1.heap[w.heap.size]? = some (.deferred (some [])) := by
    rw [hW1]; exact (Below.heap_alloc _ _ _ (by simp)).trans (World.alloc_heap_new w _)
  have hi1 : I [] W1 := by
    rw [hW1]
    exact hIa _ _ _ (hIa _ _ _ h0)
  refine ⟨w.heap.size + 1, [{ target := .collected w.heap.size, args := #[] }], W1, { target := .fn (.func gf) lb, args := #[.func (.yield (w.heap.size + 1)) #[] #[]] }, W1, gf,
    #[.func (.yield (w.heap.size + 1)) #[] #[]] ++ lb, W1, ?_, ?_, ?_, ?_, fun _ => h1, ?_⟩
  · rw [hW1, hrec]; exact run_enterLoop_outer _ _ _ _ _
  · simp only [resolve, hg]
    simp [go_sem]
  · intro f' hf'; trivial
  · simp [invoke, go_sem, eg]
  refine (hit (w.heap.size + 1)
    (fun pre W => I pre W ∧ W.heap[w.heap.size + 1]? = some (.loop (rec .ready none)) ∧ W.heap[w.heap.size]? = some (.deferred (some [])))
    (fun pre W => Ix pre W ∧ W.heap[w.heap.size + 1]? = some (.loop (rec .done (some .ret))) ∧ W.heap[w.heap.size]? = some (.deferred (some [])))
    W1 hb1 (fun s A B' hs hg' => ⟨hI s A B' hs.1 hg', hG _ _ _ _ hg' (by omega) hs.2.1 rfl, hG _ _ _ _ hg' (Nat.le_refl _) hs.2.2 rfl⟩)
    (fun s A B' hs hg' => ⟨hIx s A B' hs.1 hg', hG _ _ _ _ hg' (by omega) hs.2.1 rfl, hG _ _ _ _ hg' (Nat.le_refl _) hs.2.2 rfl⟩) ?_ ⟨hi1, hl1, hd1⟩).mono ?_
  · rintro pre x W ht ⟨hi, hl, hd⟩
    have hy := run_yield (P := P) (args := encs x) hl (by rw [hrec]; exact hps x)
    rw [hrec] at hy
    refine ⟨fn, _, assign, body, hy, roundIn_of_wpIn hfn (hassign _ pre x W _ ht hi fun a' Wa hka hkp hia hax => ?_)⟩
    have hla := hka.same _ _ (by omega) hl rfl
    have hda := hka.same _ _ (Nat.le_refl _) hd rfl
    refine ⟨_, run_beginRound hla (by rw [hrec]), ?_⟩
    obtain ⟨Wb, hWb⟩ : ∃ Wb, Wb = Wa.putObj (w.heap.size + 1) (.loop { rec .ready none with state := .busy }) := ⟨_, rfl⟩
    have hlb : Wb.heap[w.heap.size + 1]? = some (.loop { rec .ready none with state := .busy }) := by rw [hWb]; exact World.putObj_heap_same (Array.getElem?_eq_some_iff.1 hla).1
    have hdb : Wb.heap[w.heap.size]? = some (.deferred (some [])) := by rw [hWb]; exact (World.putObj_heap_other (by omega)).trans hda
    have hkb : Kp Wa Wb := by rw [hWb]; exact hKb _ _ _ _ (by omega) hla rfl
    have hib : I pre Wb := by rw [hWb]; exact hIp _ _ _ _ _ (by omega) hla rfl hia
    have hab : Ax pre x a' Wb := by rw [hWb]; exact hAx pre x a' () _ _ _ _ (by omega) hla rfl hax
    rw [← hWb]
    refine wpIn_mono (hbody _ pre x a' Wb (by omega) ⟨_, hlb⟩ hib hab) ?_
    rintro e a3 W3 hp
    cases e with
    | normal =>
      obtain ⟨hk3, hok3, hkp3, hi3⟩ := hp
      have hl3 := hk3.same _ _ (by omega) hlb rfl
      have hd3 := hk3.same _ _ (Nat.le_refl _) hdb rfl
      refine ⟨_, _, run_endRound (P := P) none hl3, .inl ⟨rfl, hok3, ⟨hIp _ _ _ _ _ (by omega) hl3 rfl hi3, ?_, (World.putObj_heap_other (by omega)).trans hd3⟩, hKt hkp (hKt hkb (hKt hkp3 (hKb _ _ _ _ (by omega) hl3 rfl)))⟩⟩
      rw [World.putObj_heap_same (Array.getElem?_eq_some_iff.1 hl3).1, hrec]
      rfl
    | ret =>
      obtain ⟨hk3, hi3⟩ := hp
      have hl3 := hk3.same _ _ (by omega) hlb rfl
      have hd3 := hk3.same _ _ (Nat.le_refl _) hdb rfl
      refine ⟨_, _, run_endRound (P := P) (some .ret) hl3, .inr ⟨rfl, hIxp _ _ _ _ _ (by omega) hl3 rfl hi3, ?_, (World.putObj_heap_other (by omega)).trans hd3⟩⟩
      rw [World.putObj_heap_same (Array.getElem?_eq_some_iff.1 hl3).1, hrec]
      rfl
    | exit id => exact hp.elim
    | goto t => exact hp.elim
    | panic ch => exact hp.elim
    | outgrown => exact hp.elim
  · rintro e W2 ⟨⟨v, rfl⟩, (⟨xs, hS, hi, hl, hd⟩ | ⟨pre, hS, hi, hl, hd⟩)⟩
    · have hr := run_endLoop (P := P) hl (by rw [hrec]; simp)
      rw [show (rec .ready none).pending = none by rw [hrec]] at hr
      exact ⟨none, _, hr, hdone _ xs W2 _ (Nat.le_refl _) hS (hIp _ _ _ _ _ (by omega) hl rfl hi) (grownBy_putObj' _ _ _) ((World.putObj_heap_other (by omega)).trans hd)⟩
    · have hr := run_endLoop (P := P) hl (by rw [hrec]; simp)
      rw [show (rec .done (some .ret)).pending = some .ret by rw [hrec]] at hr
      exact ⟨some .ret, _, hr, hstop _ pre W2 _ (Nat.le_refl _) hS (hIxp _ _ _ _ _ (by omega) hl rfl hi) (grownBy_putObj' _ _ _) ((World.putObj_heap_other (by omega)).trans hd)⟩
end Go.Proofs.Yteemdjamgbbjhaa.Dsk

/-
  All: what a log tells, one behind the other.
-/
namespace Go.Proofs.Yteemdjamgbbjhaa.Wl
set_option maxRecDepth 100000
open Go.RowKit Go.Shelf Go.Proofs.Yteemdjamgbbjhaa.Wd Go.Proofs.Yteemdjamgbbjhaa.Dsk Go.Proofs.Yteemdjamgbbjhaa.Oct Go.Proofs.Yteemdjamgbbjhaa.Sum

attribute [local go_sem] Oper.semAt_some

theorem all_nil (w : World) : Calls Try.prog 21 #[.pointer none] w fun e w' => e = .returned (.func (.func 65) #[] #[.pointer (some ⟨w.heap.size, 0, none⟩)]) ∧ Below w.heap.size w w' ∧ Row w' w.heap.size 58 [.slice none 0 0] := by
  go_enter Try.func21, Try.ntmps21
  go_wp2
  go_ret
  exact ⟨rfl, (Below.refl _ _).alloc (Nat.le_refl _) _, Row.new _ _ _⟩
theorem all_log (g dg area t n c used : Nat) (A : Option Addr) (br : Bool) (w : World) (h : Row w g 83 (wcs dg area t A n c used br)) :
    Calls Try.prog 21 #[.pointer (some ⟨g, 0, none⟩)] w fun e w' => e = .returned (.func (.func 65) #[] #[.pointer (some ⟨w.heap.size, 0, none⟩)]) ∧ Below w.heap.size w w' ∧ Row w' w.heap.size 58 [.slice A n c] := by
  have hb1 : Below w.heap.size w (w.alloc (.cells #[.slice none 0 0] 58)) := (Below.refl _ _).alloc (Nat.le_refl _) _
  have c3 : (w.alloc (.cells #[.slice none 0 0] 58)).cell? ⟨g, 3, none⟩ = some (.slice A n c) := (h.below hb1 h.lt).cell 3
  have hrn : Row (w.alloc (.cells #[.slice none 0 0] 58)) w.heap.size 58 [.slice none 0 0] := Row.new w _ _
  go_enter Try.func21, Try.ntmps21
  clear hb1 hrn
  go_wp2
  go_ret
  exact ⟨rfl, (Below.refl _ _).alloc (Nat.le_refl _) _, Row.new _ _ _⟩

/-- the element of All: its number, and where its bytes lie -/
abbrev EA := Nat × Option Addr × Nat × Nat
def encA (x : EA) : Array Value := #[.int .i64 (x.1 : Int), .slice x.2.1 x.2.2.1 x.2.2.2]
def GA (A B : World) : Prop := Below A.heap.size A B
def KpA (K : Nat → Prop) (W W' : World) : Prop := (∀ k, K k → W'.heap[k]? = W.heap[k]?) ∧ W.heap.size ≤ W'.heap.size
theorem KpA.refl (K : Nat → Prop) (W : World) : KpA K W W := ⟨fun _ _ => rfl, Nat.le_refl _⟩
theorem KpA.trans {K : Nat → Prop} {A B C : World} (h : KpA K A B) (k : KpA K B C) : KpA K A C := ⟨fun i hi => (k.1 i hi).trans (h.1 i hi), Nat.le_trans h.2 k.2⟩
/-- what is known of an element in the world of its round -/
structure TA (fs : List (List UInt8)) (B : Nat) (pre : List EA) (x : EA) (W : World) : Prop where
  num : x.1 = pre.length + 1
  lt : x.1 < fs.length
  by_ : By W x.2.1 x.2.2.1 x.2.2.2 (fs.getD x.1 [])
  new : ∀ k, (Value.slice x.2.1 x.2.2.1 x.2.2.2).ownBlock = some k → B ≤ k
  most : x.2.2.1 ≤ 40000
/-- frames that lie in blocks of K, behind a variable -/
structure FA (W : World) (K : Nat → Prop) (Bf : Nat) (A : Option Addr) (c : Nat) (fs : List (List UInt8)) : Prop where
  cell : W.cell? ⟨Bf, 0, none⟩ = some (.slice A fs.length c)
  kf : K Bf
  lt : ∀ k, K k → k < W.heap.size
  at_ : ∀ i, i < fs.length → ∃ g, A = some ⟨g, 0, none⟩ ∧ K g ∧ ∃ Ai ni ci, W.cell? ⟨g, i, none⟩ = some (.slice Ai ni ci) ∧ By W Ai ni ci (fs.getD i []) ∧ ni ≤ 40000 ∧ ∀ k, (Value.slice Ai ni ci).ownBlock = some k → K k
theorem FA.kept {W W' : World} {K : Nat → Prop} {Bf c : Nat} {A : Option Addr} {fs : List (List UInt8)} (h : FA W K Bf A c fs) (hk : ∀ k, K k → W'.heap[k]? = W.heap[k]?) : FA W' K Bf A c fs := by
  refine ⟨(World.cell?_of_block (a := ⟨Bf, 0, none⟩) (hk _ h.kf)).trans h.cell, h.kf, fun k hK => kept_lt (hk k hK) (h.lt k hK), fun i hi => ?_⟩
  obtain ⟨g, hA, hg, Ai, ni, ci, h1, h2, h3, h4⟩ := h.at_ i hi
  exact ⟨g, hA, hg, Ai, ni, ci, (World.cell?_of_block (a := ⟨g, i, none⟩) (hk _ hg)).trans h1, own_kept h2 (fun k hkb _ => hk k (h4 k hkb)), h3, h4⟩
theorem FA.below {W W' : World} {K : Nat → Prop} {Bf c : Nat} {A : Option Addr} {fs : List (List UInt8)} (h : FA W K Bf A c fs) (hb : Below W.heap.size W W') : FA W' K Bf A c fs := h.kept fun k hk => hb.block k (h.lt k hk)
/-- what the rounds hold -/
def IA (W1 : World) (K : Nat → Prop) (Bf : Nat) (A : Option Addr) (c : Nat) (fs : List (List UInt8)) (J : List EA → World → Prop) (r : Nat) (W : World) : Prop :=
  (∃ xs : List EA, xs.length = r - 1 ∧ J xs W) ∧ FA W K Bf A c fs ∧ KpA K W1 W
set_option maxHeartbeats 4000000 in
theorem all_feeds (Bf nn c : Nat) (A : Option Addr) (fs : List (List UInt8)) (K : Nat → Prop) (w : World) (hnn : 1 ≤ nn) (hl : fs.length ≤ 100000) (hF : FA w K Bf A c fs) :
    Feeds nn Try.prog 65 #[.pointer (some ⟨Bf, 0, none⟩)] encA GA (TA fs w.heap.size) (fun _ => True) (KpA K) (fun xs _ => xs.length = fs.length - 1) (fun _ _ => True) w := by
  intro yl J Jx W1 hW1 hJ hJx hY hJ0
  have HY := Lib.hid hY
  have HJ := Lib.hid hJ
  have HS := Lib.hid hW1.size
  have hF1 := hF.below hW1
  have hc0 := hF1.cell
  have HI0 : Hid (IA W1 K Bf A c fs J 0 W1) := ⟨⟨[], rfl, hJ0⟩, hF1, KpA.refl _ _⟩
  clear hY hJ hJx hF1 hF hJ0 hW1
  refine callsIn_of_wp Try.func65 rfl trivial ?_ rfl
  simp only [Try.ntmps65, List.size_toArray, List.length_cons, List.length_nil, Nat.reduceAdd, Nat.reduceSub, Array.replicate_succ, Array.replicate_zero, List.push_toArray, List.append_toArray, List.nil_append, List.cons_append]
  gi_wp2
  gi_loopw [7] (fun t7 wr => ∃ r : Nat, r ≤ fs.length ∧ t7 = .int .i64 (r : Int) ∧ Hid (IA W1 K Bf A c fs J r wr)) (fun t7 _ => fs.length - (intOf t7).toNat)
  case atStart => exact ⟨0, by omega, rfl, HI0⟩
  case round =>
    obtain ⟨r, hr, rfl, HI⟩ := hrel
    clear HI0 hc0
    by_cases hlt : r < fs.length
    case neg =>
      have h1 : ¬ (r : Int) < (fs.length : Int) := by omega
      obtain rfl : r = fs.length := by omega
      obtain ⟨⟨xs, hxl, hj⟩, _, _⟩ := HI.out
      have HX := Lib.hid (And.intro hxl hj)
      clear hxl hj HI
      gi_wp2
      go_end0
      exact ⟨⟨_, rfl⟩, .inl ⟨xs, HX.out.1, HX.out.2⟩⟩
    have h1 : (r : Int) < (fs.length : Int) := by omega
    obtain ⟨⟨xs, hxl, hj⟩, hfa, hkp⟩ := HI.out
    obtain ⟨g, rfl, hKg, Ai, ni, ci, hci, hby, hni, hKi⟩ := hfa.at_ r hlt
    have HFA := Lib.hid hfa
    have HKP := Lib.hid hkp
    have HXL := Lib.hid hxl
    have HJX := Lib.hid hj
    have HBY := Lib.hid hby
    clear hxl hj hfa hkp hby hKi HI
    by_cases hr0 : r = 0
    · subst hr0
      have HN : Hid (IA W1 K Bf (some ⟨g, 0, none⟩) c fs J (0 + 1) wr) := ⟨⟨xs, HXL.out, HJX.out⟩, HFA.out, HKP.out⟩
      gi_wp2_with fail
      refine ⟨trivial, ?_⟩
      gi_wp2_with fail
      refine ⟨fun f h => (by cases h), ?_⟩
      gi_wp2
      go_roundw
      case rel => exact ⟨0 + 1, by omega, by go_num, HN⟩
      case measure => simp [intOf]; omega
    · have hr1 : (0 : Int) < (r : Int) := by omega
      have HCL := Lib.hid (clone_own Ai (fs.getD r []) ci ni wr HBY.out.sl (by omega))
      gi_wp2_with fail
      refine ⟨trivial, callsIn_wide.2 (HCL.out.mono ?_)⟩
      rintro e w3 ⟨A', c', rfl, hby3, hnew3, hb3⟩
      have hJ3 : J xs w3 := HJ.out _ _ _ HJX.out hb3
      have htr : TA fs w.heap.size xs (r, A', ni, c') w3 := ⟨by rw [HXL.out]; show r = r - 1 + 1; omega, hlt, hby3, fun k hk => Nat.le_trans HS.out (Nat.le_trans HKP.out.2 (hnew3 k hk)), hni⟩
      have HFA3 := Lib.hid (HFA.out.below hb3)
      have HKP3 : Hid (KpA K W1 w3) := HKP.out.trans ⟨fun k hk => hb3.block k (HFA.out.lt k hk), hb3.size⟩
      obtain ⟨fn, tmps, assign, body, hy, hR⟩ := HY.out xs _ w3 htr hJ3
      unfold encA at hy
      dsimp only at hy
      clear htr hJ3 hby3 hnew3 hb3 HCL hci
      gi_wp2_with fail
      refine hR.mono ?_
      rintro e W3 (⟨rfl, _, hJ4, hk4⟩ | ⟨rfl, hJx4⟩)
      · have HN : Hid (IA W1 K Bf (some ⟨g, 0, none⟩) c fs J (r + 1) W3) := ⟨⟨_, by rw [List.length_append, HXL.out]; show r - 1 + 1 = r + 1 - 1; omega, hJ4⟩, HFA3.out.kept hk4.1, HKP3.out.trans hk4⟩
        clear hk4 hJ4 hR hy
        gi_wp2
        go_roundw
        case rel => exact ⟨r + 1, by omega, by go_num, HN⟩
        case measure => simp [intOf]; omega
      · gi_wp2
        refine bodyPost_ret (results_none rfl _ _ _) rfl ?_
        exact ⟨⟨_, rfl⟩, .inr ⟨_, trivial, hJx4⟩⟩
end Go.Proofs.Yteemdjamgbbjhaa.Wl

/-
  Bytes made strings; bytes.Equal.
-/
namespace Go.Proofs.Yteemdjamgbbjhaa.Beq
set_option maxRecDepth 100000
open Go.RowKit Go.Proofs.Yteemdjamgbbjhaa.Wd

def bstr (l : List UInt8) : ByteArray := strOfNums (l.map fun b => (b.toNat : Int))
theorem bstr_list (l : List UInt8) : (bstr l).toList = l := by
  rw [ByteArray.toList_eq, bstr, strOfNums_data, List.map_map]
  conv => rhs; rw [← List.map_id l]
  refine List.map_congr_left fun b _ => ?_
  simp
theorem bstr_inj {a b : List UInt8} : bstr a = bstr b ↔ a = b := ⟨fun h => by rw [← bstr_list a, h, bstr_list], fun h => by rw [h]⟩
theorem conv_zero {P : Program} (w : World) (src e : TypeId) (hs : P.underlying src = some (.slice e)) (he : P.underlying e = some (.int .u8)) (p : Option Addr) (c : Nat) (dst : TypeId) (hd : P.underlying dst = some .string) :
    (convert src dst (.slice p 0 c)).run P w = .ok (.string (bstr [])) w := by
  rw [run_convert_bytes_string w src dst e _ 0 c hs he hd]
  cases p <;> simp [Conv.bytesToString, loadCells]
  all_goals rfl
theorem conv_any (w : World) (B : Nat) (A : Option Addr) (n c : Nat) (l : List UInt8) (hl : l.length = n) (h : Bs w B A l) :
    (convert 37 9 (.slice A n c)).run Try.prog w = .ok (.string (bstr l)) w := by
  rcases Nat.eq_zero_or_pos n with hn | hn
  · subst hn
    obtain rfl : l = [] := List.eq_nil_of_length_eq_zero hl
    exact conv_zero w 37 5 Try.underlying37 Try.underlying5 A c 9 Try.underlying9
  · obtain ⟨b, o, rfl, _, hc⟩ := h (by omega)
    refine run_convert_bytes_arg w 37 5 Try.underlying37 Try.underlying5 b o n c (l.map fun b => (b.toNat : Int)) (by simpa using hl) (fun i hi => ?_) 9 Try.underlying9
    rw [hc i (by omega)]
    have hi' : i < l.length := by omega
    simp [hi']
theorem bytesEq_any (A1 A2 : Option Addr) (n1 c1 n2 c2 : Nat) (l1 l2 : List UInt8) (B1 B2 : Nat) (w : World) (h1 : l1.length = n1) (h2 : l2.length = n2) (b1 : Bs w B1 A1 l1) (b2 : Bs w B2 A2 l2) :
    Calls Try.prog 28 #[.slice A1 n1 c1, .slice A2 n2 c2] w fun e w' => e = .returned (.bool (decide (l1 = l2))) ∧ w = w' := by
  have k1 := conv_any w B1 A1 n1 c1 l1 h1 b1
  have k2 := conv_any w B2 A2 n2 c2 l2 h2 b2
  clear h1 h2 b1 b2
  have HI := Lib.hid (bstr_inj (a := l1) (b := l2))
  go_enter Try.func28, Try.ntmps28
  go_wp2
  go_ret
  refine ⟨ret_bool ?_, rfl⟩
  rw [Bool.eq_iff_iff, decide_eq_true_eq, ← HI.out]
  simp
  rw [bstr_list, bstr_list, HI.out]
end Go.Proofs.Yteemdjamgbbjhaa.Beq

/-
  Does the layer do anything?
-/
namespace Go.Proofs.Yteemdjamgbbjhaa.Wl
set_option maxRecDepth 100000
open Go.RowKit Go.Shelf Go.Proofs.Yteemdjamgbbjhaa.Wd Go.Proofs.Yteemdjamgbbjhaa.Dsk Go.Proofs.Yteemdjamgbbjhaa.Oct Go.Proofs.Yteemdjamgbbjhaa.Sum Go.Proofs.Yteemdjamgbbjhaa.Beq

attribute [local go_sem] Oper.semAt_some

def wk1 : DM := (formM 4 (DM.new 10)).1
def wk2 : DM := (layM (pairsM 0 1 [97, 98]) 3 wk1).1
theorem wk_form : (formM 4 (DM.new 10)).2 = 0 := by decide +kernel
theorem wk_lay : (layM (pairsM 0 1 [97, 98]) 3 wk1).2 = 0 := by decide +kernel
theorem wk_open : (openM wk2).2 = (0, (0, 4, [[], [97, 98]])) := by decide +kernel
theorem below_off {w w1 w2 : World} {F : Nat → Prop} (hb : Below w.heap.size w w1) (ho : Off F w1 w2) (hF : ∀ k, F k → w.heap.size ≤ k) : Below w.heap.size w w2 :=
  hb.trans ⟨ho.os, ho.tape, ho.output, ho.size, fun k hk => ho.block k (Nat.lt_of_lt_of_le hk hb.size) (fun h => by have := hF k h; omega)⟩
theorem ext_new {w w1 w2 : World} {F F' : Nat → Prop} (hb : w.heap.size ≤ w1.heap.size) (hx : Ext F F' w1 w2) (hF : ∀ k, F k → w.heap.size ≤ k) : ∀ k, F' k → w.heap.size ≤ k := fun k hk => by
  rcases hx k hk with h | h
  · exact hF k h
  · omega
theorem dk_new {F : Nat → Prop} {g n : Nat} {W : World} (h : Disk W F g (DM.new n)) : ∃ Fm : Nat → Prop, Dk W Fm g (DM.new n) ∧ ∀ k, Fm k → F k := dk_min h
theorem log_keep {w w' : World} {G : Nat → Prop} {g dg area t : Nat} {fs : List (List UInt8)} {br : Bool} (h : Log w G g dg area t fs br) (hk : ∀ k, G k → k < w.heap.size → w'.heap[k]? = w.heap[k]?) : Log w' G g dg area t fs br := by
  obtain ⟨A, c, xs, h1, h2, h3, h4, h5⟩ := h
  exact ⟨A, c, xs, (hk g h3 h1.lt).trans h1, own_kept h2 (fun k hkb hlt => hk k (h4 k hkb) hlt), h3, h4, fun i hi => by
    obtain ⟨Ai, ni, ci, q1, q2, q3, q4⟩ := h5 i hi
    exact ⟨Ai, ni, ci, q1, own_kept q2 (fun k hkb hlt => hk k (q4 k hkb) hlt), q3, q4⟩⟩
theorem log_below {w w' : World} {G : Nat → Prop} {g dg area t : Nat} {fs : List (List UInt8)} {br : Bool} (h : Log w G g dg area t fs br) (hb : Below w.heap.size w w') : Log w' G g dg area t fs br := log_keep h fun k _ hlt => hb.block k hlt
theorem log_more {w : World} {G G' : Nat → Prop} {g dg area t : Nat} {fs : List (List UInt8)} {br : Bool} (h : Log w G g dg area t fs br) (hk : ∀ k, G k → G' k) : Log w G' g dg area t fs br := by
  obtain ⟨A, c, xs, h1, h2, h3, h4, h5⟩ := h
  exact ⟨A, c, xs, h1, h2, hk _ h3, fun k hkb => hk k (h4 k hkb), fun i hi => by
    obtain ⟨Ai, ni, ci, q1, q2, q3, q4⟩ := h5 i hi
    exact ⟨Ai, ni, ci, q1, q2, q3, fun k hkb => hk k (q4 k hkb)⟩⟩
/-- what a return out of the first round leaves -/
def WkX (w : World) (r : Bool) (_ : List EA) (W : World) : Prop := Row W w.heap.size 4 [.bool r] ∧ Below w.heap.size w W
theorem own_put {W : World} {l : Nat} {o o' : Obj} {e : TypeId} {v : Value} {n : Nat} {xs : List Value} (h : W.ownsRow 0 e 1 v n xs) (hl : W.heap[l]? = some o) (hc : o.isCells = false) : (W.putObj l o').ownsRow 0 e 1 v n xs :=
  own_kept h fun g hg _ => World.putObj_heap_other fun he => by
    obtain ⟨cs, hr⟩ := own_type h hg
    rw [he] at hr
    rw [show W.heap[l]? = _ from hr] at hl
    cases hl
    cases hc
theorem row_putL {W : World} {b : Nat} {t : TypeId} {cs : List Value} (h : Row W b t cs) {k : Nat} {ob ob' : Obj} (hl : W.heap[k]? = some ob) (hc : ob.isCells = false) : Row (W.putObj k ob') b t cs := by
  refine (World.putObj_heap_other fun e => ?_).trans h
  rw [← e, show W.heap[b]? = _ from h] at hl
  cases hl
  cases hc
theorem load_bool {W : World} {b : Nat} {r : Bool} (h : Row W b 4 [.bool r]) : (loadVar 4 ⟨b, 0, none⟩).run Try.prog W = .ok (.bool r) W := by
  have hc : W.cell? ⟨b, 0, none⟩ = some (.bool r) := h.cell 0
  go_simp
/-- what the rounds hold: there is no second one -/
structure WkI (w : World) (B : Nat) (pre : List EA) (W : World) : Prop where
  nil : pre = []
  r0 : Row W w.heap.size 4 [.bool false]
  hb : Below w.heap.size w W
  sz : B ≤ W.heap.size
def WkAx (w : World) (tm : Value → Value → Array Value) (x : EA) (a' : Act) (W : World) : Prop := a' = { tmps := tm (.int .i64 (x.1 : Int)) (.slice x.2.1 x.2.2.1 x.2.2.2), defers := [] } ∧ x.1 = 1 ∧ By W x.2.1 x.2.2.1 x.2.2.2 [97, 98] ∧ x.2.2.1 ≤ 40000
set_option maxHeartbeats 8000000 in
theorem wakes_any (w : World) : Calls Try.prog 8 #[] w fun e w' => e = .returned (.bool true) ∧ Below w.heap.size w w' := by
  have mixed : Try.prog.follows .mixedOrders = true := by kernel_rfl
  refine (callsIn_wide (n := 9)).1 ?_
  refine callsIn_of_wp_marks Try.func8 rfl trivial ?_ rfl
  refine wpIn_wide.2 ?_
  simp only [Try.ntmps8, List.size_toArray, List.length_cons, List.length_nil, Nat.reduceAdd, Nat.reduceSub, Array.replicate_succ, Array.replicate_zero, List.push_toArray, List.append_toArray, List.nil_append, List.cons_append]
  go_wp2_with fail
  have hb0 : Below w.heap.size w (w.alloc (.cells #[.bool false] 4)) := (Below.refl _ _).alloc (Nat.le_refl _) _
  have hr0 : Row (w.alloc (.cells #[.bool false] 4)) w.heap.size 4 [.bool false] := Row.new w _ _
  generalize w.alloc (.cells #[.bool false] 4) = w0 at hb0 hr0 ⊢
  have HB0 := Lib.hid hb0
  have HR0 := Lib.hid hr0
  clear hb0 hr0
  refine (dnew_good 10 _ (by omega) (by omega)).mono ?_
  rintro e w1 ⟨dg, rfl, F0, hd0, hf0, hb1⟩
  obtain ⟨F1, hd1, hff⟩ := dk_new hd0
  have HD1 := Lib.hid hd1
  have HF1 : Hid (∀ k, F1 k → w0.heap.size ≤ k) := Lib.hid fun k hk => hf0 k (hff k hk)
  have HB1 := Lib.hid (HB0.out.trans (hb1.mono HB0.out.size))
  have HR1 := Lib.hid (HR0.out.below hb1 HR0.out.lt)
  have HS01 := Lib.hid hb1.size
  clear hd0 hf0 hb1 hd1 hff
  go_wp2_with fail
  refine (format_any dg 4 (DM.new 10) F1 w1 HD1.out (by omega) (by omega) (by simp [DM.new]) (by simp [DM.new])).mono ?_
  rintro e w2 ⟨p, F2, rfl, hd2, hx2, ho2, -, hg2⟩
  obtain ⟨g, rfl, hgw, hbg⟩ := hg2 wk_form
  rw [wk_form]
  have hlog := Log.of_begun hbg hgw (by omega) rfl
  have HD2 : Hid (Dk w2 F2 dg wk1) := Lib.hid hd2
  have HF2 := Lib.hid (ext_new HS01.out hx2 HF1.out)
  have HB2 := Lib.hid (below_off HB1.out ho2 (fun k hk => Nat.le_trans HB0.out.size (HF1.out k hk)))
  have HR2 : Hid (Row w2 w.heap.size 4 [.bool false]) := Lib.hid ((ho2.block _ HR1.out.lt (fun h => by have := HF1.out _ h; have := HR0.out.lt; omega)).trans HR1.out)
  have HLG2 := Lib.hid hlog
  have HS12 := Lib.hid ho2.size
  clear hd2 hx2 ho2 hg2 hbg hlog hgw
  have HCV := Lib.hid (show (convert 37 37 (.slice (some ⟨w2.heap.size, 0, none⟩) 2 2)).run Try.prog (w2.alloc (.cells #[.int .u8 97, .int .u8 98] 5)) = .ok (.slice (some ⟨w2.heap.size, 0, none⟩) 2 2) (w2.alloc (.cells #[.int .u8 97, .int .u8 98] 5 (2, 3))) from Lib.run_convert_bytes_const (P := Try.prog) w2 37 5 #[.int .u8 97, .int .u8 98] 2 2 Try.underlying37 Try.underlying5)
  go_wp2_with fail
  rw [HCV.out]
  have hb3 : Below w2.heap.size w2 (w2.alloc (.cells #[.int .u8 97, .int .u8 98] 5 (2, 3))) := (Below.refl _ _).alloc (Nat.le_refl _) _
  have hs3 : Sl (w2.alloc (.cells #[.int .u8 97, .int .u8 98] 5 (2, 3))) (w2.alloc (.cells #[.int .u8 97, .int .u8 98] 5 (2, 3))).heap.size (some ⟨w2.heap.size, 0, none⟩) 2 2 [97, 98] := ⟨rfl, Nat.le_refl _, by unfold maxLen; omega, fun h => (by cases h), by
    have := lit_bs2 w2 [97, 98] 5 (2, 3)
    rw [World.size_alloc]
    exact this⟩
  generalize w2.alloc (.cells #[.int .u8 97, .int .u8 98] 5 (2, 3)) = w3 at hb3 hs3 ⊢
  have HD3 := Lib.hid (HD2.out.below hb3)
  have HLG3 := Lib.hid (log_below HLG2.out hb3)
  have HB3 := Lib.hid (HB2.out.trans (hb3.mono HB2.out.size))
  have HR3 := Lib.hid (HR2.out.below hb3 HR2.out.lt)
  have HS3 := Lib.hid hs3
  have HS23 := Lib.hid hb3.size
  clear hb3 hs3 HCV
  go_wp2_with fail
  refine (append_ok g dg 4 0 [[]] (some ⟨w2.heap.size, 0, none⟩) 2 2 [97, 98] wk1 F2 _ w3 HLG3.out HD3.out HS3.out (by omega) (by omega) (by omega) (by decide) (by decide) (by simp) (by decide +kernel)).mono ?_
  rintro e w4 ⟨rfl, F4, G4, hd4, hx4, hy4, ho4, hl4⟩
  have hlay : (layM (pairsM 0 ([[]] : List (List UInt8)).length [97, 98]) ((2 + 0 % 2 * 4 + usedM [[]] : Nat) : Int) wk1).2 = 0 := by decide +kernel
  have hlay1 : (layM (pairsM 0 ([[]] : List (List UInt8)).length [97, 98]) ((2 + 0 % 2 * 4 + usedM [[]] : Nat) : Int) wk1).1 = wk2 := rfl
  rw [hlay1] at hd4
  rw [hlay]
  have HD4 := Lib.hid hd4
  have hF2w : ∀ k, F2 k → w.heap.size + 1 ≤ k := fun k hk => by have := HF2.out k hk; have := HR0.out.lt; omega
  have HB4 := Lib.hid (below_off HB3.out ho4 (fun k hk => by
    rcases hk with h | h
    · have := hF2w k h; omega
    · have := HB1.out.size; omega))
  have HF4 : Hid (∀ k, F4 k → w.heap.size + 1 ≤ k) := Lib.hid fun k hk => by
    rcases hx4 k hk with h | h
    · exact hF2w k h
    · have := HR3.out.lt; omega
  have HR4 : Hid (Row w4 w.heap.size 4 [.bool false]) := Lib.hid ((ho4.block _ HR3.out.lt (fun h => by
    rcases h with h | h
    · have := hF2w _ h; omega
    · have := HR1.out.lt; omega)).trans HR3.out)
  clear hd4 hx4 hy4 ho4 hl4 hlay hlay1 hF2w
  go_wp2_with fail
  refine (open_any dg wk2 F4 w4 HD4.out (by decide +kernel)).mono ?_
  rintro e w5 ⟨p5, F5, rfl, hd5, hx5, ho5, -, hok5⟩
  rw [wk_open] at hok5 ⊢
  obtain ⟨g5, rfl, hl5, -⟩ := hok5 rfl
  dsimp only at hl5 ⊢
  have HB5 := Lib.hid (below_off HB4.out ho5 (fun k hk => by have := HF4.out k hk; omega))
  have HR5 : Hid (Row w5 w.heap.size 4 [.bool false]) := Lib.hid ((ho5.block _ HR4.out.lt (fun h => by have := HF4.out _ h; omega)).trans HR4.out)
  obtain ⟨A, c, xs, hrow, hown, hG, hGA, hat⟩ := hl5
  have HROW := Lib.hid hrow
  have HOWN := Lib.hid hown
  have HGA := Lib.hid hGA
  have HAT := Lib.hid hat
  have HS45 := Lib.hid ho5.size
  clear hd5 hx5 ho5 hok5 hrow hown hG hGA hat
  go_wp2_with fail
  refine (len_log g5 dg 4 0 1 c (usedM [[], [97, 98]]) A false w5 HROW.out (by omega)).mono ?_
  rintro e w6 ⟨rfl, rfl⟩
  go_wp2_with fail
  have hlf := left_any g5 dg 4 0 2 c (usedM [[], [97, 98]]) A false w5 HROW.out (by omega) (by decide)
  rw [show (4 - usedM [[], [97, 98]] : Nat) = 2 by decide] at hlf
  refine hlf.mono ?_
  rintro e w6 ⟨rfl, rfl⟩
  clear hlf
  go_wp2_with fail
  refine (all_log g5 dg 4 0 2 c (usedM [[], [97, 98]]) A false w5.drew (Row.drew HROW.out)).mono ?_
  rintro e w7 ⟨rfl, hb7, hr7⟩
  obtain ⟨Bf, hBf⟩ : ∃ Bf, w5.drew.heap.size = Bf := ⟨_, rfl⟩
  have hBf5 : w5.heap.size = Bf := hBf
  rw [hBf] at hr7 ⊢
  have hb75 : Below w5.heap.size w5 w7 := ((Below.refl _ _).drew).trans hb7
  obtain ⟨B, hB⟩ : ∃ B, B = w7.heap.size := ⟨_, rfl⟩
  have HLT : Hid (w.heap.size < w4.heap.size ∧ w4.heap.size ≤ Bf ∧ Bf < B) := Lib.hid (by have := HR4.out.lt; have := HS45.out; have := hr7.lt; omega)
  have HFA : Hid (FA w7 (fun k => w4.heap.size ≤ k ∧ k < B) Bf A c [[], [97, 98]]) := Lib.hid (by
    refine ⟨hr7.cell 0, ⟨HLT.out.2.1, HLT.out.2.2⟩, fun k hk => by rw [← hB]; exact hk.2, fun i hi => ?_⟩
    have hrow5 := HOWN.out
    have hs75 := hb75.size
    have hlt5 := HLT.out
    rcases hrow5 with ⟨hxl, hv | ⟨gx, cap, cur, hv, _, hg, q1, q2, q3, q4⟩⟩
    · exact absurd hv.2 (by simp)
    · cases hv
      have hgx := HGA.out gx rfl
      have hgl : gx < w5.heap.size := (Array.getElem?_eq_some_iff.1 hg).1
      obtain ⟨Ai, ni, ci, s1, s2, s3, s4⟩ := HAT.out i hi
      refine ⟨gx, rfl, ⟨hgx, by omega⟩, Ai, ni, ci, ?_, own_kept s2 (fun k _ hlt => hb75.block k hlt), s3, fun k hk => ⟨s4 k hk, by have := own_lt s2 hk; omega⟩⟩
      rw [World.cell?_of_block (a := ⟨gx, i, none⟩) (hb75.block gx hgl), cell_of_row w5 gx i cur _ (0, 0) hg]
      rw [← q4, List.getElem?_take_of_lt (by have : ([[], [97, 98]] : List (List UInt8)).length = 2 := rfl; omega)] at s1
      simpa using s1)
  have HB7 := Lib.hid (HB5.out.trans (hb75.mono HB5.out.size))
  have HR7 := Lib.hid (HR5.out.below hb75 HR5.out.lt)
  clear hr7 hb7 hb75 hBf hBf5
  go_wp2_with fail
  refine (wpIn_wide (n := 9)).1 ?_
  refine range_feeds (n := 9) (by omega) (gf := 65) (lb := #[.pointer (some ⟨Bf, 0, none⟩)]) rfl (enters_of Try.func65 (by kernel_rfl) rfl)
    (encs := encA) (G := GA) (T := TA [[], [97, 98]] w7.heap.size) (Ok := fun _ => True) (Kp := KpA (fun k => w4.heap.size ≤ k ∧ k < B)) (S := fun xs _ => xs.length = 1) (Sp := fun _ _ => True) ?feeds (fun h k => h.trans k) ?hKb (fun _ => rfl)
    (WkI w B) (WkX w true) ?hG ?hIa ?hI ?hIx ?hIp ?hIxp ?h0 (fun _ x a' W => WkAx w (fun x5 x6 => #[.pointer (some ⟨w.heap.size, 0, none⟩), .pointer (some ⟨dg, 0, none⟩), .int .i64 0, .pointer (some ⟨g, 0, none⟩), .pointer (some ⟨g5, 0, none⟩), x5, x6, .tuple #[.pointer (some ⟨dg, 0, none⟩), .int .i64 0], .tuple #[.pointer (some ⟨dg, 0, none⟩), .int .i64 0], .pointer (some ⟨dg, 0, none⟩), .int .i64 0, .int .i64 0, .bool false, .tuple #[.pointer (some ⟨g, 0, none⟩), .int .i64 0], .pointer (some ⟨dg, 0, none⟩), .tuple #[.pointer (some ⟨g, 0, none⟩), .int .i64 0], .pointer (some ⟨g, 0, none⟩), .int .i64 0, .int .i64 0, .bool false, .bool false, .pointer (some ⟨g, 0, none⟩), .bool false, .bool false, .bool false, .pointer (some ⟨g, 0, none⟩), .slice (some ⟨w2.heap.size, 0, none⟩) 2 2, .slice (some ⟨w2.heap.size, 0, none⟩) 2 2, .int .i64 0, .bool false, .bool false, .tuple #[.pointer (some ⟨g5, 0, none⟩), .int .i64 0], .pointer (some ⟨dg, 0, none⟩), .tuple #[.pointer (some ⟨g5, 0, none⟩), .int .i64 0], .pointer (some ⟨g5, 0, none⟩), .int .i64 0, .int .i64 0, .bool false, .bool false, .pointer (some ⟨g5, 0, none⟩), .bool false, .bool false, .bool false, .pointer (some ⟨g5, 0, none⟩), .int .i64 1, .bool false, .bool false, .bool false, .pointer (some ⟨g5, 0, none⟩), .int .i64 2, .bool false, .bool false, .pointer (some ⟨g5, 0, none⟩), .func ((.func 65)) #[] #[.pointer (some ⟨Bf, 0, none⟩)], x5, x6, undef, undef, undef, undef, undef, undef, undef]) x a' W) ?hAx ?assign ?body ?done ?stop
  case feeds => exact all_feeds Bf 8 c A [[], [97, 98]] (fun k => w4.heap.size ≤ k ∧ k < B) w7 (by omega) (by decide) HFA.out
  case hKb =>
    intro W l o o' hl ho hc
    exact ⟨fun k hk => World.putObj_heap_other (by have := hk.2; omega), (grownBy_putObj' W l o').size⟩
  case hG =>
    intro X Y k o hg hk ho hc
    exact (hg.block k (Array.getElem?_eq_some_iff.1 ho).1).trans ho
  case hIa =>
    rintro s W o ⟨h1, h2, h3, h4⟩
    have hb : Below W.heap.size W (W.alloc o) := (Below.refl _ _).alloc (Nat.le_refl _) _
    exact ⟨h1, h2.below hb h2.lt, h3.trans (hb.mono h3.size), Nat.le_trans h4 hb.size⟩
  case hI =>
    rintro s X Y ⟨h1, h2, h3, h4⟩ hb
    exact ⟨h1, h2.below hb h2.lt, h3.trans (hb.mono h3.size), Nat.le_trans h4 hb.size⟩
  case hIx =>
    rintro s X Y ⟨h2, h3⟩ hb
    exact ⟨h2.below hb h2.lt, h3.trans (hb.mono h3.size)⟩
  case hIp =>
    rintro s W l o o' hl ho hc ⟨h1, h2, h3, h4⟩
    have hg := grownBy_putObj' W l o'
    have := HLT.out
    exact ⟨h1, row_putL h2 ho hc, h3.grown hg h3.size (fun q e => by have := Option.some.inj e; omega), Nat.le_trans h4 hg.size⟩
  case hIxp =>
    rintro s W l o o' hl ho hc ⟨h2, h3⟩
    have hg := grownBy_putObj' W l o'
    have := HLT.out
    exact ⟨row_putL h2 ho hc, h3.grown hg h3.size (fun q e => by have := Option.some.inj e; omega)⟩
  case h0 => exact ⟨rfl, HR7.out, HB7.out, by omega⟩
  case hAx =>
    rintro s x a' _ W l o o' hl ho hc ⟨h1, h2, h3, h4⟩
    exact ⟨h1, h2, own_put h3 ho hc, h4⟩
  case assign =>
    intro yl pre x W K ht hI hK
    have HT := Lib.hid ht
    have HI := Lib.hid hI
    have HK := Lib.hid hK
    have hx1 : x.1 = 1 := by rw [ht.num, hI.nil]; rfl
    have HX1 := Lib.hid hx1
    clear ht hI hK hx1
    unfold encA
    gi_wp2
    exact HK.out _ W (KeepsFrom.refl _ _) (KpA.refl _ _) HI.out ⟨rfl, HX1.out, by
      have := HT.out.by_
      rw [HX1.out] at this
      exact this, HT.out.most⟩
  case body =>
    rintro yl pre ⟨i, Ax, nx, cx⟩ a' W hyl hr hI ⟨rfl, hx1, hby, hmx⟩
    dsimp only at hx1 hby hmx ⊢
    subst hx1
    have hsl := hby.sl
    have hcv : (convert 37 9 (.slice Ax nx cx)).run Try.prog W = .ok (.string { data := #[97, 98] }) W := conv_any W _ Ax nx cx [97, 98] hsl.len hsl.bs
    have hc0 : W.cell? ⟨w.heap.size, 0, none⟩ = some (.bool false) := hI.r0.cell 0
    have hf0 := hI.r0.frozen 0
    have HI := Lib.hid hI
    clear hI hby hsl hr
    gi_wp2
    have hg := grownBy_setCell' W w.heap.size (.bool true)
    have := HLT.out
    refine ⟨KeepsFrom.of_grownBy hg (fun j e => by have := Option.some.inj e; omega), ?_, HI.out.hb.grown hg HI.out.hb.size (fun q e => by have := Option.some.inj e; omega)⟩
    simpa using HI.out.r0.store 0 (.bool true)
  case done =>
    rintro D xs W W' hD hS hI hg hdf
    rw [hI.nil] at hS
    cases hS
  case stop =>
    rintro D pre W W' hD - ⟨h2, h3⟩ hg hdf
    have HX := Lib.hid (And.intro h2 (And.intro h3 hdf))
    have HD7 : Hid (w.heap.size < D) := Lib.hid (by have := HLT.out; omega)
    clear h2 h3 hdf hg
    refine wpIn_wide.2 ?_
    go_wp2
    obtain ⟨h2, h3, hdf⟩ := HX.out
    refine ⟨by simp, .inl ⟨_, _, rfl, run_takeDeferred hdf, ?_⟩⟩
    have h2' := row_putL (ob' := .deferred none) h2 hdf rfl
    have hgp := grownBy_putObj' W' D (.deferred none)
    exact ⟨.bool true, results_cell (p := 0) (ty := 4) rfl _ _ ⟨w.heap.size, 0, none⟩ _ rfl (load_bool h2'), rfl, h3.grown hgp h3.size (fun q e => by have := Option.some.inj e; have := HD7.out; omega)⟩
end Go.Proofs.Yteemdjamgbbjhaa.Wl

/-
  From a walk of a law to its statement: lemmas over any program; how arguments open.
-/
namespace Go.Proofs.Yteemdjamgbbjhaa.Lift
open Go.ChangeShapes Go.WideShapes Go.ChangeAt Go.RowKit Go.Proofs.Yteemdjamgbbjhaa.Wd

section
variable {H : Type} {enc : TypeId × Value → H} {P : Program}

theorem trodAll_below (hl : laidOutB P = true) {W W' : World} (hb : Below W.heap.size W W') :
    ∀ {ts : List TypeId} {vs : List Value} {ds : List (DataW H)} {ps : List MemPlace}, (∀ t ∈ ts, P.readableRec t = true ∧ t < P.types.size) → DataW.TrodAll enc P W 0 (fun _ => true) true ts vs ds ps → (∀ x ∈ ps, x.block < W.heap.size) →
      DataW.TrodAll enc P W' 0 (fun b => decide (b < W.heap.size)) true ts vs ds ps
  | [], vs, ds, ps, _, h, _ => by
    obtain ⟨rfl, rfl, rfl⟩ := trodAll_nil h
    exact trodAll_mk0
  | t :: ts, vs, ds, ps, ht, h, hlt => by
    obtain ⟨v, vs', d, ds', p, q, rfl, rfl, rfl, h0, h1⟩ := trodAll_cons h
    refine trodAll_cons_mk (Below.trod hl (ht t (by simp)).1 (ht t (by simp)).2 h0 hb (fun x hx => hlt x (by simp [hx]))) ?_
    exact trodAll_below hl hb (fun t' h' => ht t' (by simp [h'])) h1 (fun x hx => hlt x (by simp [hx]))

/-- what a law leaves meets its row -/
theorem law_post {fn : Func} {s : ChangeSpec} {W W' : World} {args : Array Value} {ds gs : List (DataW H)} {before : List MemPlace} {tb : TypeId} (hl : laidOutB P = true) (hv : s.vars = []) (hr : fn.resultTypes = #[tb]) (htb : P.underlying tb = some .bool)
    (hread : ∀ t ∈ fn.params.toList, P.readableRec t = true ∧ t < P.types.size) (hW : DataW.Whole enc P fn.params.toList s.vars false W args.toList ds gs before)
    (hfn : s.fn H (ds ++ gs) = { results := [.lit (.bool true)], args := ds }) (bel : Below W.heap.size W W') : s.post enc P fn false true false false W args (.bool true) W' := by
  have hW' := hW
  have hlt := hW.lt
  obtain ⟨p, q, hA, hV, rfl, _, _⟩ := hW
  refine ⟨ds, gs, p ++ q, [], p, [], hW', ?_, ?_, ?_, bel.frame _, fun h => by cases h⟩
  · rw [hfn, hr]
    exact trodAll_mk1 (shut_bool htb _)
  · rw [hfn]
    exact trodAll_below hl bel hread hA (fun x hx => hlt x (by simp [hx]))
  · rw [hfn, hv]
    rfl

/-- THE FIRST FORM's STEP: from the walk of a law, its arguments as they are read. -/
theorem law_lift {C : Checked} {os : Os} {f : FuncId} {fn : Func} {s : ChangeSpec} {tb : TypeId} (own : ownKnob C.prog.godebug = none) (hl : laidOutB C.prog = true) (started : os.Started) (noInit : C.prog.inits.idxOf? f = none) (hfn : C.prog.funcs[f]? = some fn)
    (witness : ∃ (w : World) (tape : Tape) (i : Input), w.os = os ∧ (w.forCall tape i).Shaped C.prog ∧ i.vars = [] ∧ Input.okWide C.prog (w.forCall tape i) .any w.heap.size f i ∧
      s.pre6 enc C.prog fn [] false (w.forCall tape i).memory i.args ∧ ({} : Assume).holds C.prog (lone (Frame.enter C.prog f i.args .normal) [] (w.forCall tape i)))
    (hv : s.vars = []) (hr : fn.resultTypes = #[tb]) (htb : C.prog.underlying tb = some .bool) (hread : ∀ t ∈ fn.params.toList, C.prog.readableRec t = true ∧ t < C.prog.types.size)
    (contract : ∀ (W : World) (base : Nat) (args : Array Value) (ds : List (DataW H)) (p : List MemPlace),
      (∀ (j : Nat) t v, fn.params[j]? = some t → args[j]? = some v → Value.okWide C.prog W .any base t v) →
      DataW.TrodAll enc C.prog W 0 (fun _ => true) true fn.params.toList args.toList ds p →
      (DataW.weightsEach C.prog fn.params.toList ds).all (· ≤ reachBytes) = true →
      s.fn H ds = { results := [.lit (.bool true)], args := ds } ∧ Calls C.prog f args W fun e W' => e = .returned (.bool true) ∧ Below W.heap.size W W') :
    ReturnsInHanded {} C os f .any (s.pre6 enc C.prog fn [] false) (s.post enc C.prog fn false true false false) := by
  refine returnsInHanded_of_change_sized own started noInit hfn witness ?_
  intro W base args ds gs before hval hW _ hsz _
  have hW' := hW
  obtain ⟨p, q, hA, hV, rfl, hfz, hnd⟩ := hW
  have hv' : s.plain.vars = [] := hv
  have hgs : gs = [] := by
    rw [hv] at hV
    cases gs with
    | nil => rfl
    | cons g gs => exact hV.elim
  subst hgs
  have hsz' : (DataW.weightsEach C.prog fn.params.toList ds).all (· ≤ reachBytes) = true := by
    have e : s.plain.varTypes C.prog = [] := by unfold DataSpec.varTypes; rw [hv']; rfl
    rw [e, List.append_nil, List.append_nil] at hsz
    exact hsz
  obtain ⟨hsf, hc⟩ := contract W base args ds p hval hA hsz'
  refine hc.mono fun e W' ⟨he, bel⟩ => ⟨_, he, law_post hl hv hr htb hread hW' ?_ bel⟩
  rw [List.append_nil]
  exact hsf
end

section
variable {H : Type} {enc : TypeId × Value → H} {P : Program}
/-- a slice of bytes that came in -/
theorem open_bytes {W : World} {base : Nat} {t e : TypeId} {v : Value} {d : DataW H} {ps : List MemPlace} (ht : P.underlying t = some (.slice e)) (he : P.underlying e = some (.int .u8)) (hc : P.cellsOf e = 1)
    (hval : Value.okWide P W .any base t v) (h : DataW.Trod enc P W 0 (fun _ => true) true t v d ps) :
    ∃ A len cap l, v = .slice A len cap ∧ l.length = len ∧ len ≤ cap ∧ cap ≤ maxLen ∧ (A = none → cap = 0) ∧ Bs W W.heap.size A l ∧ ((∃ elems spare, d = .slice elems spare ∧ elems.length + spare.length = cap) ∨ cap = 0) := by
  obtain ⟨a0, len0, cap0, rfl⟩ := okWide_slice ht hval
  have hlt : ∀ x ∈ ps, x.block < W.heap.size := by obtain ⟨m, hm⟩ := h; exact DataW.trod_lt m _ _ _ hm
  obtain ⟨fuel, hf⟩ := h
  rcases open_ints ht he hc hf with ⟨hcs, _⟩ | ⟨x, l, c, zs, hcs, _, hl, hm, hz, hx, hcell, hwz⟩
  · simp [Value.cells] at hcs
    obtain ⟨rfl, rfl, rfl⟩ := hcs
    exact ⟨none, 0, 0, [], rfl, rfl, Nat.le_refl _, Nat.zero_le _, fun _ => rfl, Bs.nil _ _ _, .inr rfl⟩
  · simp [Value.cells] at hcs
    obtain ⟨rfl, rfl, rfl⟩ := hcs
    have hz' : zs.length = cap0 := by simpa using hz
    have hdp := (Prod.mk.inj hx)
    refine ⟨some x, len0, cap0, (zs.take len0).map (fun z => UInt8.ofNat z.toNat), rfl, by simp; omega, hl, hm, (fun hh => by cases hh), ?_, .inl ⟨_, _, hdp.1, by simp [lits]; omega⟩⟩
    intro hp
    have hp' : 0 < len0 := by simp at hp; omega
    have hc0 := hcell 0 (by omega)
    obtain ⟨b, off, spot⟩ := x
    have hspot : spot = none := by simpa [Addr.add] using World.cell?_spot hc0
    subst hspot
    refine ⟨b, off, rfl, World.block_lt_of_cell? W _ (by simpa [Addr.add_lit] using hc0), fun i hi => ?_⟩
    simp at hi
    have h1 := hcell i (by omega)
    rw [Addr.add_lit] at h1
    rw [h1]
    have hi' : i < zs.length := by omega
    have hw := hwz (zs.getD i 0) (by simp [List.getD_eq_getElem?_getD, hi'])
    have hw' : 0 ≤ zs.getD i 0 ∧ zs.getD i 0 ≤ 255 := by simpa [Lit.wf, IntKind.min, IntKind.max, IntKind.signed, IntKind.bits] using hw
    have e2 : ((zs.take len0).map (fun z => UInt8.ofNat z.toNat)).getD i 0 = UInt8.ofNat (zs.getD i 0).toNat := by
      simp [List.getD_eq_getElem?_getD, hi', hi]
    rw [e2]
    generalize zs.getD i 0 = z at hw' ⊢
    obtain ⟨n, rfl⟩ := Int.eq_ofNat_of_zero_le hw'.1
    congr 2
    simp
    omega
/-- a slice of numbers of 64 bits that came in -/
theorem open_u64s {W : World} {base : Nat} {t e : TypeId} {v : Value} {d : DataW H} {ps : List MemPlace} (ht : P.underlying t = some (.slice e)) (he : P.underlying e = some (.int .u64)) (hc : P.cellsOf e = 1)
    (hval : Value.okWide P W .any base t v) (h : DataW.Trod enc P W 0 (fun _ => true) true t v d ps) :
    ∃ A len cap xs, v = .slice A len cap ∧ xs.length = len ∧ len ≤ cap ∧ cap ≤ maxLen ∧ (A = none → cap = 0) ∧ Us W W.heap.size A xs ∧ (∀ x ∈ xs, InU64 x) ∧ ((∃ elems spare, d = .slice elems spare ∧ elems.length + spare.length = cap) ∨ cap = 0) := by
  obtain ⟨a0, len0, cap0, rfl⟩ := okWide_slice ht hval
  have hlt : ∀ x ∈ ps, x.block < W.heap.size := by obtain ⟨m, hm⟩ := h; exact DataW.trod_lt m _ _ _ hm
  obtain ⟨fuel, hf⟩ := h
  rcases open_ints ht he hc hf with ⟨hcs, _⟩ | ⟨x, l, c, zs, hcs, _, hl, hm, hz, hx, hcell, hwz⟩
  · simp [Value.cells] at hcs
    obtain ⟨rfl, rfl, rfl⟩ := hcs
    exact ⟨none, 0, 0, [], rfl, rfl, Nat.le_refl _, Nat.zero_le _, fun _ => rfl, fun hp => absurd hp (by simp), (fun x hx => by cases hx), .inr rfl⟩
  · simp [Value.cells] at hcs
    obtain ⟨rfl, rfl, rfl⟩ := hcs
    have hz' : zs.length = cap0 := by simpa using hz
    have hdp := (Prod.mk.inj hx)
    have hw' : ∀ z ∈ zs, 0 ≤ z ∧ z ≤ 18446744073709551615 := fun z hzm => by
      have := hwz z hzm
      simpa [Lit.wf, IntKind.min, IntKind.max, IntKind.signed, IntKind.bits] using this
    refine ⟨some x, len0, cap0, (zs.take len0).map Int.toNat, rfl, by simp; omega, hl, hm, (fun hh => by cases hh), ?_, ?_, .inl ⟨_, _, hdp.1, by simp [lits]; omega⟩⟩
    · intro hp
      have hp' : 0 < len0 := by simp at hp; omega
      have hc0 := hcell 0 (by omega)
      obtain ⟨b, off, spot⟩ := x
      have hspot : spot = none := by simpa [Addr.add] using World.cell?_spot hc0
      subst hspot
      refine ⟨b, off, rfl, World.block_lt_of_cell? W _ (by simpa [Addr.add_lit] using hc0), fun i hi => ?_⟩
      simp at hi
      have h1 := hcell i (by omega)
      rw [Addr.add_lit] at h1
      rw [h1]
      have hi' : i < zs.length := by omega
      have hw := hw' (zs.getD i 0) (by simp [List.getD_eq_getElem?_getD, hi'])
      have e2 : ((zs.take len0).map Int.toNat).getD i 0 = (zs.getD i 0).toNat := by
        simp [List.getD_eq_getElem?_getD, hi', hi]
      rw [e2, Int.toNat_of_nonneg hw.1]
    · intro y hy
      obtain ⟨z, hz1, rfl⟩ := List.mem_map.1 hy
      have := hw' z (List.mem_of_mem_take hz1)
      show _ < _
      omega
/-- the reach of a slice of bytes -/
theorem bytes_reach {ts : List TypeId} {ds : List (DataW H)} {e : TypeId} (h1 : P.bytesOf e = 1) (h : (DataW.weightsEach P ts ds).all (· ≤ reachBytes) = true) {j : Nat} {t : TypeId} {d : DataW H} (ht : ts[j]? = some t) (hd : ds[j]? = some d) (hu : P.underlying t = some (.slice e))
    {cap : Nat} (hc : (∃ elems spare, d = .slice elems spare ∧ elems.length + spare.length = cap) ∨ cap = 0) : cap ≤ 140737488351232 := by
  rcases hc with ⟨elems, spare, rfl, rfl⟩ | rfl
  · have := sized_slice h ht hd hu
    rw [h1] at this
    simpa [reachBytes] using this
  · exact Nat.zero_le _
end

section
variable {H : Type} {enc : TypeId × Value → H} {P : Program}
theorem bulk_one {H : Type} (d : DataW H) : 1 ≤ Rows.uptoBulk d := by
  cases d with
  | lit l => cases l <;> simp [Rows.uptoBulk]
  | nil => simp [Rows.uptoBulk]
  | ptr d => simp [Rows.uptoBulk]
  | slice elems spare => simp [Rows.uptoBulk]
  | agg parts => simp [Rows.uptoBulk]
  | iface t d => simp [Rows.uptoBulk]
  | map entries => simp [Rows.uptoBulk]
  | held h => simp [Rows.uptoBulk]
theorem bulk_part {H : Type} {d : DataW H} {l : List (DataW H)} (h : d ∈ l) : Rows.uptoBulk d ≤ Rows.uptoBulkAll l := by
  induction l with
  | nil => cases h
  | cons x r ih =>
    simp only [Rows.uptoBulkAll]
    cases List.mem_cons.1 h with
    | inl e => subst e; omega
    | inr e => have := ih e; omega
theorem bulk_length {H : Type} (l : List (DataW H)) : l.length ≤ Rows.uptoBulkAll l := by
  induction l with
  | nil => simp [Rows.uptoBulkAll]
  | cons x r ih => have := bulk_one x; simp only [Rows.uptoBulkAll, List.length_cons]; omega
/-- THE SECOND FORM's BOUND of a slice's room -/
theorem bulk_cap {H : Type} {ds : List (DataW H)} (h : Rows.uptoSmall H ds = true) {d : DataW H} (hd : d ∈ ds) {cap : Nat} (hc : (∃ elems spare, d = .slice elems spare ∧ elems.length + spare.length = cap) ∨ cap = 0) : cap ≤ 1048576 := by
  rcases hc with ⟨elems, spare, rfl, rfl⟩ | rfl
  · have h0 : Rows.uptoBulkAll ds ≤ 1048576 := of_decide_eq_true h
    have h1 := bulk_part hd
    have h2 := bulk_length elems
    have h3 := bulk_length spare
    simp only [Rows.uptoBulk] at h1
    omega
  · exact Nat.zero_le _
/-- THE SECOND FORM's STEP -/
theorem law_lift_upto {C : Checked} {os : Os} {f : FuncId} {fn : Func} {s : ChangeSpec} {tb : TypeId} (F : Stop.Interp) (own : ownKnob C.prog.godebug = none) (hl : laidOutB C.prog = true) (started : os.Started) (noInit : C.prog.inits.idxOf? f = none) (hfn : C.prog.funcs[f]? = some fn)
    (witness : ∃ (w : World) (tape : Tape) (i : Input), w.os = os ∧ (w.forCall tape i).Shaped C.prog ∧ i.vars = [] ∧ Input.okWide C.prog (w.forCall tape i) .any w.heap.size f i ∧
      (Rows.OpenSpec.upto s).pre6 enc C.prog fn [] false (w.forCall tape i).memory i.args ∧ ({} : Assume).holds C.prog (lone (Frame.enter C.prog f i.args .normal) [] (w.forCall tape i)))
    (hv : s.vars = []) (hr : fn.resultTypes = #[tb]) (htb : C.prog.underlying tb = some .bool) (hread : ∀ t ∈ fn.params.toList, C.prog.readableRec t = true ∧ t < C.prog.types.size)
    (contract : ∀ (W : World) (base : Nat) (args : Array Value) (ds : List (DataW H)) (p : List MemPlace),
      (∀ (j : Nat) t v, fn.params[j]? = some t → args[j]? = some v → Value.okWide C.prog W .any base t v) →
      DataW.TrodAll enc C.prog W 0 (fun _ => true) true fn.params.toList args.toList ds p →
      Rows.uptoSmall H ds = true →
      s.fn H ds = { results := [.lit (.bool true)], args := ds } ∧ Calls C.prog f args W fun e W' => e = .returned (.bool true) ∧ Below W.heap.size W W') :
    ReturnsInHanded {} C os f .any ((Rows.OpenSpec.upto s).pre6 enc C.prog fn [] false) (((Rows.OpenSpec.upto s).at F).post enc C.prog fn false true false false) := by
  refine returnsInHanded_of_cond (C := C) (s := Rows.OpenSpec.upto s) (k := Rows.uptoSmall) rfl own started noInit hfn witness ?_
  intro W base args ds gs before hval hW _ hk _
  have hW' : DataW.Whole enc C.prog fn.params.toList s.vars false W args.toList ds gs before := hW
  have hW2 := hW'
  obtain ⟨p, q, hA, hV, rfl, hfz, hnd⟩ := hW2
  have hgs : gs = [] := by
    rw [hv] at hV
    cases gs with
    | nil => rfl
    | cons g gs => exact hV.elim
  subst hgs
  rw [List.append_nil] at hk
  obtain ⟨hsf, hc⟩ := contract W base args ds p hval hA hk
  refine hc.mono fun e W' ⟨he, bel⟩ => ⟨_, he, ?_⟩
  refine law_post (s := s) hl hv hr htb hread hW' ?_ bel
  rw [List.append_nil]
  exact hsf
end
end Go.Proofs.Yteemdjamgbbjhaa.Lift

/-
  Values behind an address or behind none; bools.
-/
namespace Go.Proofs.Yteemdjamgbbjhaa.Dsk
open Go.RowKit Go.Proofs.Yteemdjamgbbjhaa.Wd

/-- The address A, with as many cells as vs has, reads vs; it lies below block B. -/
def Vs (w : World) (B : Nat) (A : Option Addr) (vs : List Value) : Prop :=
  0 < vs.length → ∃ b o, A = some ⟨b, o, none⟩ ∧ b < B ∧ w.rangeAt b o vs
theorem Vs.below {w w' : World} {B : Nat} {A : Option Addr} {vs : List Value} (h : Vs w B A vs) (hb : Below B w w') : Vs w' B A vs := fun hp => by
  obtain ⟨b, o, e, hlt, hr⟩ := h hp
  exact ⟨b, o, e, hlt, range_below hr hb hlt⟩
theorem wpList_append_vs {P : Program} {w : World} {ops : Array Oper} {rest : List Oper} {o : Oper} {a : Act} {Q : Exit → Act → World → Prop} (hgd : o.guard = none) (s x : Operand) (t : TypeId)
    (ho : o.op = .call { callee := .builtin .append, args := #[s, x], argTypes := #[t, t] })
    (base : Nat) (e : TypeId) (i : TypeInfo) (z : Value) (ht : P.underlying t = some (.slice e)) (hi : P.info? e = some i) (hz : i.zero = some z) (hsize : i.size = 1) (hby : i.bytes = 1) (hzs : z.cells.size = 1)
    (v : Value) (n : Nat) (xs : List Value) (hs : a.eval s = v) (hown : w.ownsRow base e 1 v n xs)
    (A : Option Addr) (m c : Nat) (vs : List Value) (hx : a.eval x = .slice A m c) (hl : vs.length = m) (B : Nat) (hr : Vs w B A vs) (h1 : ∀ u ∈ vs, u.oneCell' = true) (hA : A = none → c = 0)
    (h63 : n + m ≤ 140737488355328) (hbase : base ≤ w.heap.size)
    (h : ∀ v' w', w'.ownsRow base e 1 v' (n + m) (xs ++ vs) → w.grownBy w' v.ownBlock → wpList P ops Q rest (a.put o.dst v') w') : wpList P ops Q (o :: rest) a w := by
  cases A with
  | none =>
    have h0 : m = 0 := by
      rcases Nat.eq_zero_or_pos m with h0 | h0
      · exact h0
      · obtain ⟨b, o, e, _⟩ := hr (by omega)
        cases e
    subst h0
    obtain rfl := hA rfl
    obtain rfl : vs = [] := List.eq_nil_of_length_eq_zero hl
    refine wpList_plain hgd fun K hK' => ?_
    have hrun := run_append_owned_none (P := P) w base t o.type e i 1 ht hi v n xs hown
    unfold Oper.wp
    simp [execOp, ho, resolve, invoke, builtin, hs, hx, hrun, Result.andThen]
    exact hK' _ _ (h v w (by simpa using hown) (World.grownBy.refl _ _))
  | some ad =>
    refine wpList_plain hgd fun K hK' => wp_append_own w s x t ho base e i z 1 1 ht hi hz hsize hby hzs (by omega) v n xs hs hown ad m c vs hx (by omega) (fun j u hu => ?_) h1 (by unfold maxLen; omega) (by omega) hbase fun v' w' h2 h3 _ => hK' _ _ (h v' w' h2 h3)
    have hj : j < vs.length := (List.getElem?_eq_some_iff.1 hu).1
    obtain ⟨b, o, e, _, hc⟩ := hr (by omega)
    obtain rfl := Option.some.inj e
    rw [Addr.add_lit, hc j u hu]
def bools (l : List Bool) : List Value := l.map .bool
theorem bools_one {l : List Bool} : ∀ u ∈ bools l, u.oneCell' = true := by
  intro u hu
  obtain ⟨_, _, rfl⟩ := List.mem_map.1 hu
  rfl
theorem info4 : (Try.prog.info? 4).map (fun i => (i.zero, i.size, i.bytes)) = some (some (.bool false), 1, 1) := by kernel_rfl

end Go.Proofs.Yteemdjamgbbjhaa.Dsk

/-
  The ops of the statements about logs: how they open, their kinds and bytes.
-/
namespace Go.Proofs.Yteemdjamgbbjhaa.Wl
set_option maxRecDepth 100000
open Go.RowKit Go.Proofs.Yteemdjamgbbjhaa.Wd Go.Proofs.Yteemdjamgbbjhaa.Dsk Go.Proofs.Yteemdjamgbbjhaa.Oct Go.ChangeShapes Go.WideShapes Go.Deep

/-- an op's value -/
def opv (k a : Int) (x : UInt8) (A : Option Addr) (n c : Nat) : Value := .agg #[.int .i64 k, .int .i64 a, .int .u8 (x.toNat : Int), .slice A n c]
def ocs (k a : Int) (x : UInt8) (A : Option Addr) (n c : Nat) : List Value := [.int .i64 k, .int .i64 a, .int .u8 (x.toNat : Int), .slice A n c]
/-- an op -/
structure OM where
  k : Int
  a : Int
  x : UInt8
  A : Option Addr
  n : Nat
  c : Nat
  l : List Bool
def OM.cells (o : OM) : List Value := ocs o.k o.a o.x o.A o.n o.c
def OM.val (o : OM) : Value := opv o.k o.a o.x o.A o.n o.c
/-- an op that can be read in a world -/
structure OpOk (W : World) (o : OM) : Prop where
  len : o.l.length = o.n
  vs : Vs W W.heap.size o.A (bools o.l)
  nil : o.A = none → o.c = 0
  most : o.n ≤ 140737488351232
  low : -9223372036854775808 ≤ o.a
  high : o.a < 9223372036854775808
/-- The address A, with as many ops as os has, reads os; it lies below block B. -/
def Opl (w : World) (B : Nat) (A : Option Addr) (os : List OM) : Prop :=
  0 < os.length → ∃ b o, A = some ⟨b, o, none⟩ ∧ b < B ∧ ∀ i m, os[i]? = some m → w.rangeAt b (o + i * 4) m.cells
section
variable {H : Type} {enc : TypeId × Value → H} {W : World}
theorem bytes_bool : Try.prog.bytesOf 4 = 1 := by kernel_rfl
theorem cells_bool : Try.prog.cellsOf 4 = 1 := by kernel_rfl
theorem cells_op : Try.prog.cellsOf 55 = 4 := by kernel_rfl
theorem op_fields : ∃ f0 f1 f2 f3 : Field, Try.prog.underlying 55 = some (.struct #[f0, f1, f2, f3]) ∧ f0.type = 3 ∧ f1.type = 3 ∧ f2.type = 5 ∧ f3.type = 53 ∧ f0.offset = 0 ∧ f1.offset = 1 ∧ f2.offset = 2 ∧ f3.offset = 3 :=
  ⟨_, _, _, _, Try.underlying55, rfl, rfl, rfl, rfl, rfl, rfl, rfl, rfl⟩
theorem cells_int : Try.prog.cellsOf 3 = 1 := by kernel_rfl
theorem cells_u8 : Try.prog.cellsOf 5 = 1 := by kernel_rfl
theorem cells_bs : Try.prog.cellsOf 53 = 1 := by kernel_rfl
/-- a slice of bools that came in -/
theorem open_bs {fuel : Nat} {cs : List Value} {x : DataW H × List MemPlace} (h : DataW.trod enc Try.prog W 0 (fun _ => true) true fuel 53 cs = some x) :
    ∃ A n c l, cs = [.slice A n c] ∧ l.length = n ∧ n ≤ c ∧ (A = none → c = 0) ∧ Vs W W.heap.size A (bools l) ∧ ((x.1.weights Try.prog 53).all (· ≤ reachBytes) = true → c ≤ 140737488351232) := by
  rcases open_bools Try.underlying53 Try.underlying4 cells_bool h with ⟨rfl, rfl⟩ | ⟨a, n, c, B, rfl, _, hl, hm, rfl, hcell⟩
  · exact ⟨none, 0, 0, [], rfl, rfl, Nat.le_refl _, fun _ => rfl, (fun hp => absurd hp (by simp [bools])), fun _ => Nat.zero_le _⟩
  · refine ⟨some a, n, c, (List.range n).map B, rfl, by simp, hl, (fun hh => by cases hh), fun hp => ?_, fun hw => ?_⟩
    · have hp' : 0 < n := by simpa [bools] using hp
      have hc0 := hcell 0 (by omega)
      obtain ⟨b, off, spot⟩ := a
      have hspot : spot = none := by simpa [Addr.add] using World.cell?_spot hc0
      subst hspot
      refine ⟨b, off, rfl, World.block_lt_of_cell? W _ (by simpa [Addr.add_lit] using hc0), fun j v hj => ?_⟩
      have hj' : j < n := by have := (List.getElem?_eq_some_iff.1 hj).1; simpa [bools] using this
      have h1 := hcell j (by omega)
      rw [Addr.add_lit] at h1
      rw [h1]
      simpa [bools, hj'] using hj
    · have hb := bytes_bool
      have hh := List.all_eq_true.1 hw
      have h2 := hh (((List.range n).length + (List.range (c - n)).length) * 1) (by
        simp [boolRow, DataW.weights, Try.underlying53, hb])
      simp [reachBytes] at h2
      omega
theorem open_op {fuel : Nat} {cs : List Value} {x : DataW H × List MemPlace} (h : DataW.trod enc Try.prog W 0 (fun _ => true) true fuel 55 cs = some x) (hw : (x.1.weights Try.prog 55).all (· ≤ reachBytes) = true) :
    ∃ o : OM, cs = o.cells ∧ OpOk W o := by
  obtain ⟨f0, f1, f2, f3, hu, t0, t1, t2, t3, o0, o1, o2, o3⟩ := op_fields
  obtain ⟨xs, n, _, hx, hl, hlen, hf⟩ := DataW.trod_struct hu h
  rw [cells_op] at hl
  match xs, hlen, cs, hl with
  | [y0, y1, y2, y3], _, [v0, v1, v2, v3], _ =>
    have g0 := hf 0 f0 rfl
    have g1 := hf 1 f1 rfl
    have g2 := hf 2 f2 rfl
    have g3 := hf 3 f3 rfl
    simp [t0, t1, t2, t3, o0, o1, o2, o3, cells_int, cells_u8, cells_bs] at g0 g1 g2 g3
    obtain ⟨k, e0, _, w0⟩ := DataW.trod_int Try.underlying3 g0
    obtain ⟨a, e1, _, w1⟩ := DataW.trod_int Try.underlying3 g1
    obtain ⟨b, e2, _, w2⟩ := DataW.trod_int Try.underlying5 g2
    obtain ⟨A, m, c, l, e3, hl3, hmc, hn3, hv3, hr3⟩ := open_bs g3
    have w1' : -9223372036854775808 ≤ a ∧ a ≤ 9223372036854775807 := by simpa [Lit.wf, IntKind.min, IntKind.max, IntKind.signed, IntKind.bits] using w1
    have w2' : 0 ≤ b ∧ b ≤ 255 := by simpa [Lit.wf, IntKind.min, IntKind.max, IntKind.signed, IntKind.bits] using w2
    have hc := hr3 (by
      rw [List.all_eq_true] at hw ⊢
      intro z hz
      refine hw z ?_
      rw [hx]
      have := DataW.weights_mem_each (P := Try.prog) (ts := (#[f0, f1, f2, f3] : Array Field).toList.map (·.type)) (ds := [y0.1, y1.1, y2.1, y3.1]) (j := 3) (t := 53) (d := y3.1) (by simp [t3]) rfl z hz
      simp only [DataW.weights, hu]
      simpa using this)
    refine ⟨⟨k, a, UInt8.ofNat b.toNat, A, m, c, l⟩, ?_, hl3, hv3, hn3, by show m ≤ _; omega, by show _ ≤ a; omega, by show a < _; omega⟩
    simp at e0 e1 e2 e3
    obtain ⟨q, rfl⟩ := Int.eq_ofNat_of_zero_le w2'.1
    have hq : q % 256 = q := by omega
    simp [OM.cells, ocs, e0, e1, e2, e3]
    omega
theorem weights_mem_all {P : Program} {e : TypeId} : ∀ {ds : List (DataW H)} {d : DataW H}, d ∈ ds → ∀ n ∈ d.weights P e, n ∈ DataW.weightsAll P e ds
  | d0 :: ds, d, hd, n, hn => by
    simp only [DataW.weightsAll, List.mem_append]
    rcases List.mem_cons.1 hd with rfl | hd
    · exact .inl hn
    · exact .inr (weights_mem_all hd n hn)
theorem open_ops {v : Value} {d : DataW H} {ps : List MemPlace} {base : Nat} (hval : Value.okWide Try.prog W .any base 52 v) (h : DataW.Trod enc Try.prog W 0 (fun _ => true) true 52 v d ps) (hw : (d.weights Try.prog 52).all (· ≤ reachBytes) = true) :
    ∃ A n c os, v = .slice A n c ∧ os.length = n ∧ n ≤ c ∧ (A = none → c = 0) ∧ c ≤ maxLen ∧ Opl W W.heap.size A os ∧ ∀ o ∈ os, OpOk W o := by
  obtain ⟨a0, len0, cap0, rfl⟩ := okWide_slice Try.underlying52 hval
  obtain ⟨fuel, hf⟩ := h
  have hf' : DataW.trod enc Try.prog W 0 (fun _ => true) true fuel 52 [.slice a0 len0 cap0] = some (d, ps) := hf
  rcases open_slice Try.underlying52 hf' with ⟨h0, _⟩ | ⟨a, n, c, m, q, D, Pl, hcs, _, hl, hm, hmm, hx, hcell⟩
  · simp at h0
    obtain ⟨rfl, rfl, rfl⟩ := h0
    exact ⟨none, 0, 0, [], rfl, rfl, Nat.le_refl _, fun _ => rfl, Nat.zero_le _, (fun hp => absurd hp (by simp)), fun o ho => by cases ho⟩
  · simp at hcs
    obtain ⟨rfl, rfl, rfl⟩ := hcs
    simp only [if_true] at hmm
    subst hmm
    have hd : d = .slice ((List.range len0).map D) ((List.range (m - len0)).map fun j => D (len0 + j)) := congrArg Prod.fst hx
    by_cases hz : len0 = 0
    · subst hz
      exact ⟨some a, 0, m, [], rfl, rfl, hl, (fun hh => by cases hh), hm, (fun hp => absurd hp (by simp)), fun o ho => by cases ho⟩
    have hs : a.spot = none := by
      obtain ⟨cs', h1, h2⟩ := hcell 0 (by omega)
      rw [cells_op] at h1
      obtain ⟨_, hlen, hc⟩ := World.cells?_some h1
      have h00 := hc 0 (by omega)
      rw [add_add] at h00
      rw [List.getElem?_eq_getElem (by omega)] at h00
      simpa [Addr.add] using World.cell?_spot h00
    obtain ⟨b, off, spot⟩ := a
    have hs' : spot = none := hs
    subst hs'
    have each : ∀ i, i < len0 → ∃ o : OM, W.rangeAt b (off + i * 4) o.cells ∧ OpOk W o := fun i hi => by
      obtain ⟨cs', h1, h2⟩ := hcell i (by omega)
      rw [cells_op] at h1
      obtain ⟨_, hlen, hc⟩ := World.cells?_some h1
      obtain ⟨o, rfl, hok⟩ := open_op h2 (by
        rw [List.all_eq_true] at hw ⊢
        intro z hz
        refine hw z ?_
        rw [hd]
        simp only [DataW.weights, Try.underlying52, List.mem_cons, List.mem_append]
        exact .inr (.inl (weights_mem_all (List.mem_map.2 ⟨i, List.mem_range.2 hi, rfl⟩) z hz)))
      refine ⟨o, fun j v hj => ?_, hok⟩
      have h3 := hc j (by rw [← hlen]; exact (List.getElem?_eq_some_iff.1 hj).1)
      rw [add_add, Addr.add_lit] at h3
      rw [Nat.add_assoc, h3, hj]
    have : Inhabited OM := ⟨⟨0, 0, 0, none, 0, 0, []⟩⟩
    obtain ⟨f, hf⟩ := choose_lt each
    refine ⟨_, len0, m, (List.range len0).map f, rfl, by simp, hl, (fun hh => by cases hh), hm, fun hp => ?_, fun o ho => ?_⟩
    · refine ⟨b, off, rfl, ?_, fun i o hi => ?_⟩
      · have := (hf 0 (by omega)).1 0 (.int .i64 (f 0).k) rfl
        exact World.block_lt_of_cell? W _ this
      · have hi' : i < len0 := by have := (List.getElem?_eq_some_iff.1 hi).1; simpa using this
        have : o = f i := by simpa [hi'] using hi.symm
        rw [this]; exact (hf i hi').1
    · obtain ⟨i, hi, rfl⟩ := List.mem_map.1 ho
      exact (hf i (List.mem_range.1 hi)).2
end
theorem OpOk.below {w w' : World} {o : OM} (h : OpOk w o) (hb : Below w.heap.size w w') : OpOk w' o :=
  ⟨h.len, fun hp => by
    obtain ⟨b, q, e, hlt, hr⟩ := h.vs hp
    exact ⟨b, q, e, Nat.lt_of_lt_of_le hlt hb.size, range_below hr hb hlt⟩, h.nil, h.most, h.low, h.high⟩
theorem Opl.below {w w' : World} {B : Nat} {A : Option Addr} {os : List OM} (h : Opl w B A os) (hb : Below B w w') : Opl w' B A os := fun hp => by
  obtain ⟨b, o, e, hlt, hr⟩ := h hp
  exact ⟨b, o, e, hlt, fun i m hm => range_below (hr i m hm) hb hlt⟩
theorem Opl.take {w : World} {B : Nat} {A : Option Addr} {os : List OM} (h : Opl w B A os) (k : Nat) : Opl w B A (os.take k) := fun hp => by
  obtain ⟨b, o, e, hlt, hr⟩ := h (by rw [List.length_take] at hp; omega)
  refine ⟨b, o, e, hlt, fun i m hm => hr i m ?_⟩
  rw [List.getElem?_take] at hm
  split at hm
  · exact hm
  · cases hm
theorem few_any (A : Option Addr) (n c : Nat) (w : World) (hc : n ≤ c) (hA : A = none → c = 0) (hm : c ≤ maxLen) :
    Calls Try.prog 30 #[.slice A n c] w fun e w' => e = .returned (.slice A (min n 40) c) ∧ w' = w := by
  unfold maxLen at hm
  go_enter Try.func30, Try.ntmps30
  go_wp2
  case inl =>
    go_ret
    exact ⟨by rw [show min n 40 = 40 by omega]; rfl, rfl⟩
  case inr =>
    go_ret
    exact ⟨by rw [show min n 40 = n by omega]; rfl, rfl⟩

/-- an op's kind: 0 append, 1 checkpoint, 2 fail, 3 arm, 4 crash -/
def kindW (k : Int) : Nat := ((IntKind.u64.wrap k).tmod 8).toNat - 3
theorem mod8 (k : Int) : ∃ r : Nat, r < 8 ∧ (IntKind.u64.wrap k).tmod 8 = (r : Int) := by
  have h0 : 0 ≤ IntKind.u64.wrap k := by simp only [IntKind.wrap_u64]; omega
  refine ⟨((IntKind.u64.wrap k).tmod 8).toNat, ?_, ?_⟩
  · rw [Int.tmod_eq_emod_of_nonneg h0]; omega
  · rw [Int.tmod_eq_emod_of_nonneg h0]; omega
theorem idx8 (w : World) : (Instr.index 116 (.agg #[.int .i64 0, .int .i64 0, .int .i64 0, .int .i64 0, .int .i64 1, .int .i64 2, .int .i64 3, .int .i64 4]) (.int .u64 0)).run Try.prog w = .ok (.int .i64 0) w ∧ (Instr.index 116 (.agg #[.int .i64 0, .int .i64 0, .int .i64 0, .int .i64 0, .int .i64 1, .int .i64 2, .int .i64 3, .int .i64 4]) (.int .u64 1)).run Try.prog w = .ok (.int .i64 0) w ∧ (Instr.index 116 (.agg #[.int .i64 0, .int .i64 0, .int .i64 0, .int .i64 0, .int .i64 1, .int .i64 2, .int .i64 3, .int .i64 4]) (.int .u64 2)).run Try.prog w = .ok (.int .i64 0) w ∧ (Instr.index 116 (.agg #[.int .i64 0, .int .i64 0, .int .i64 0, .int .i64 0, .int .i64 1, .int .i64 2, .int .i64 3, .int .i64 4]) (.int .u64 3)).run Try.prog w = .ok (.int .i64 0) w ∧ (Instr.index 116 (.agg #[.int .i64 0, .int .i64 0, .int .i64 0, .int .i64 0, .int .i64 1, .int .i64 2, .int .i64 3, .int .i64 4]) (.int .u64 4)).run Try.prog w = .ok (.int .i64 1) w ∧ (Instr.index 116 (.agg #[.int .i64 0, .int .i64 0, .int .i64 0, .int .i64 0, .int .i64 1, .int .i64 2, .int .i64 3, .int .i64 4]) (.int .u64 5)).run Try.prog w = .ok (.int .i64 2) w ∧ (Instr.index 116 (.agg #[.int .i64 0, .int .i64 0, .int .i64 0, .int .i64 0, .int .i64 1, .int .i64 2, .int .i64 3, .int .i64 4]) (.int .u64 6)).run Try.prog w = .ok (.int .i64 3) w ∧ (Instr.index 116 (.agg #[.int .i64 0, .int .i64 0, .int .i64 0, .int .i64 0, .int .i64 1, .int .i64 2, .int .i64 3, .int .i64 4]) (.int .u64 7)).run Try.prog w = .ok (.int .i64 4) w := by
  refine ⟨?_, ?_, ?_, ?_, ?_, ?_, ?_, ?_⟩ <;> kernel_rfl
set_option maxHeartbeats 4000000 in
theorem kind_any (o : OM) (w : World) : Calls Try.prog 31 #[o.val] w fun e w' => e = .returned (.int .i64 (kindW o.k : Int)) ∧ Below w.heap.size w w' := by
  obtain ⟨k, a, x, A, n, c, l⟩ := o
  obtain ⟨r, hr, hm⟩ := mod8 k
  unfold OM.val opv
  dsimp only
  have hk : kindW k = r - 3 := by unfold kindW; rw [hm]; rfl
  have HK := Lib.hid hk
  have hb : Below w.heap.size w (w.alloc (.cells #[.int .i64 k, .int .i64 a, .int .u8 (x.toNat : Int), .slice A n c] 55)) := (Below.refl _ _).alloc (Nat.le_refl _) _
  have HB := Lib.hid hb
  clear hk hb
  have h8 : r = 0 ∨ r = 1 ∨ r = 2 ∨ r = 3 ∨ r = 4 ∨ r = 5 ∨ r = 6 ∨ r = 7 := by omega
  clear hr
  rcases h8 with rfl | rfl | rfl | rfl | rfl | rfl | rfl | rfl
  all_goals
    go_enter Try.func31, Try.ntmps31
    obtain ⟨i0, i1, i2, i3, i4, i5, i6, i7⟩ := idx8 (w.alloc (.cells #[.int .i64 k, .int .i64 a, .int .u8 (x.toNat : Int), .slice A n c] 55))
    go_wp2
    go_ret
    exact ⟨by rw [HK.out]; rfl, HB.out⟩
/-- how many bytes an op has, and which -/
def lenO (a : Int) : Nat := ((IntKind.u64.wrap a).tmod 400).toNat
def opB (o : OM) : List UInt8 := (List.range (lenO o.a)).map fun (i : Nat) => o.x + UInt8.ofNat (i * i)
theorem len_lt (a : Int) : lenO a < 400 ∧ (IntKind.u64.wrap a).tmod 400 = (lenO a : Int) := by
  have h0 : 0 ≤ IntKind.u64.wrap a := by simp only [IntKind.wrap_u64]; omega
  unfold lenO
  rw [Int.tmod_eq_emod_of_nonneg h0]
  omega
theorem opB_len (o : OM) : (opB o).length = lenO o.a := by simp [opB]
/-- the bytes when r of them are written -/
def opBr (x : UInt8) (n r : Nat) : List UInt8 := ((List.range r).map fun (i : Nat) => x + UInt8.ofNat (i * i)) ++ List.replicate (n - r) 0
theorem opBr_len (x : UInt8) {n r : Nat} (h : r ≤ n) : (opBr x n r).length = n := by simp [opBr]; omega
theorem opBr_set (x : UInt8) {n r : Nat} (h : r < n) : (opBr x n r).set r (x + UInt8.ofNat (r * r)) = opBr x n (r + 1) := by
  unfold opBr
  rw [List.set_append_right _ _ (by simp), List.length_map, List.length_range, Nat.sub_self, show n - r = n - (r + 1) + 1 by omega, List.replicate_succ, List.set_cons_zero, List.range_succ, List.map_append, List.append_assoc]
  rfl
theorem make_u8 (n : Nat) (hn : n < 400) (u : World) : (Instr.makeSlice 37 (.int .u64 (n : Int)) (.int .u64 (n : Int))).run Try.prog u =
    .ok (.slice (some ⟨u.heap.size, 0, none⟩) n n) (u.alloc (.cells (madeCells #[.int .u8 0] n) 5)) := by
  obtain ⟨i0, hi, hz0, hz1, hz2⟩ := info_parts info5
  have h := run_make (P := Try.prog) u 37 5 i0 (.int .u8 0) Try.underlying37 hi hz0 .u64 .u64 (n : Int) (n : Int) (by omega) (by omega) (by rw [hz2]; omega) (by omega)
  rw [hz1] at h
  rw [show (Value.int IntKind.u8 0).cells = #[.int .u8 0] from rfl] at h
  simpa using h
theorem u8_add_sq (x : UInt8) (i : Nat) : ((x.toNat : Int) + (i : Int) * (i : Int)) % 256 = (((x + UInt8.ofNat (i * i)).toNat : Nat) : Int) := by
  have h1 : (i : Int) * (i : Int) = ((i * i : Nat) : Int) := by push_cast; rfl
  rw [h1]
  simp only [UInt8.toNat_add, UInt8.toNat_ofNat']
  omega
/-- what an op's bytes are made of -/
def MkO (w w' : World) (l : List UInt8) (e : Ending) : Prop := ∃ g, e = .returned (.slice (some ⟨g, 0, none⟩) l.length l.length) ∧ Row w' g 5 (bv l) ∧ w.heap.size ≤ g ∧ Below w.heap.size w w'
set_option maxHeartbeats 4000000 in
theorem bytes_any (o : OM) (w : World) : Calls Try.prog 32 #[o.val] w fun e w' => MkO w w' (opB o) e := by
  have mixed : Try.prog.follows .mixedOrders = true := by kernel_rfl
  have hl := opB_len o
  have hof : opBr o.x (lenO o.a) (lenO o.a) = opB o := by unfold opBr opB; rw [Nat.sub_self, List.replicate_zero, List.append_nil]
  obtain ⟨lb, hlb⟩ : ∃ lb, opB o = lb := ⟨_, rfl⟩
  rw [hlb] at hl hof ⊢
  obtain ⟨k, a, x, A, n, c, l⟩ := o
  dsimp only at hl hof
  obtain ⟨hm, hmod⟩ := len_lt a
  obtain ⟨m, hme⟩ : ∃ m, lenO a = m := ⟨_, rfl⟩
  rw [hme] at hm hmod hl hof
  have HOF := Lib.hid hof
  have HL := Lib.hid hl
  unfold OM.val opv
  dsimp only
  clear hlb hme hof hl
  obtain ⟨w1, hw1⟩ : ∃ w1, w1 = w.alloc (.cells #[.int .i64 k, .int .i64 a, .int .u8 (x.toNat : Int), .slice A n c] 55) := ⟨_, rfl⟩
  have hr1 : Row w1 w.heap.size 55 [.int .i64 k, .int .i64 a, .int .u8 (x.toNat : Int), .slice A n c] := by rw [hw1]; exact Row.new w _ _
  have hb1 : Below w.heap.size w w1 := by rw [hw1]; exact (Below.refl _ _).alloc (Nat.le_refl _) _
  have HW1 := Lib.hid hw1
  have HR1 := Lib.hid hr1
  have HB1 := Lib.hid hb1
  clear hw1 hr1 hb1
  have hmk := make_u8 m hm w1
  go_enter Try.func32, Try.ntmps32
  go_wp2_with fail
  rw [← HW1.out, hmk]
  go_wp2_with fail
  have hrz : List.replicate m (Value.int .u8 0) = bv (opBr x m 0) := by
    unfold opBr
    rw [Nat.sub_zero, bv_zero]; rfl
  have hr2 : Row (w1.alloc (.cells (madeCells #[.int .u8 0] m) 5)) w1.heap.size 5 (bv (opBr x m 0)) := by
    rw [← hrz]; exact Row.made w1 _ _ _
  have hb2 : Below w1.heap.size w1 (w1.alloc (.cells (madeCells #[.int .u8 0] m) 5)) := (Below.refl _ _).alloc (Nat.le_refl _) _
  generalize w1.alloc (.cells (madeCells #[.int .u8 0] m) 5) = w2 at hr2 hb2 ⊢
  obtain ⟨g, hg⟩ : ∃ g, w1.heap.size = g := ⟨_, rfl⟩
  obtain ⟨b0, hb0⟩ : ∃ b0, w.heap.size = b0 := ⟨_, rfl⟩
  have HBG : Hid (b0 < g) := Lib.hid (by rw [← hg, ← hb0]; exact HR1.out.lt)
  have HGW : Hid (w.heap.size ≤ g) := Lib.hid (by rw [← hg]; exact HB1.out.size)
  have HI0 : Hid (Row w2 b0 55 [.int .i64 k, .int .i64 a, .int .u8 (x.toNat : Int), .slice A n c] ∧ Row w2 g 5 (bv (opBr x m 0)) ∧ Below w.heap.size w w2) := Lib.hid ⟨by rw [← hb0]; exact HR1.out.below hb2 HR1.out.lt, by rw [← hg]; exact hr2, HB1.out.trans (hb2.mono HB1.out.size)⟩
  rw [hg, hb0]
  clear hr2 hb2 hrz hg hb0 HW1 HR1 HB1 hmk hmod
  go_loopw [12] (fun t12 wr => ∃ r : Nat, r ≤ m ∧ t12 = .int .i64 (r : Int) ∧ Hid (Row wr b0 55 [.int .i64 k, .int .i64 a, .int .u8 (x.toNat : Int), .slice A n c] ∧ Row wr g 5 (bv (opBr x m r)) ∧ Below w.heap.size w wr)) (fun t12 _ => m - (intOf t12).toNat)
  case atStart => exact ⟨0, Nat.zero_le _, rfl, HI0⟩
  case round =>
    obtain ⟨r, hr, rfl, HI⟩ := hrel
    clear HI0
    by_cases hlt : r < m
    case neg =>
      have h1 : ¬ (r : Int) < (m : Int) := by omega
      obtain rfl : r = m := by omega
      go_wp2
      go_ret
      exact ⟨g, by rw [HL.out]; rfl, by rw [← HOF.out]; exact HI.out.2.1, HGW.out, HI.out.2.2⟩
    have h1 : (r : Int) < (m : Int) := by omega
    have h0 : (0 : Int) ≤ (r : Int) := by omega
    have c2 : wr.cell? ⟨b0, 2, none⟩ = some (.int .u8 (x.toNat : Int)) := HI.out.1.cell 2
    have hgc : wr.cell? ⟨g, r, none⟩ = some (.int .u8 (((opBr x m r).getD r 0).toNat : Int)) := by
      rw [HI.out.2.1.cell]
      have : r < (opBr x m r).length := by rw [opBr_len x (by omega)]; exact hlt
      simp [bv, this]
    have hgf := HI.out.2.1.frozen r
    have hw4 : wrap64 ((r : Int) * (r : Int)) = (r : Int) * (r : Int) := by
      have : (r : Int) * (r : Int) ≤ 400 * 400 := Int.mul_le_mul (by omega) (by omega) (by omega) (by omega)
      have : 0 ≤ (r : Int) * (r : Int) := Int.mul_nonneg h0 h0
      unfold wrap64; omega
    have HW5 := Lib.hid (u8_add_sq x r)
    have HN : Hid (∀ v : Value, v = .int .u8 (((x + UInt8.ofNat (r * r)).toNat : Nat) : Int) → Row (wr.setCell ⟨g, r, none⟩ v) b0 55 [.int .i64 k, .int .i64 a, .int .u8 (x.toNat : Int), .slice A n c] ∧ Row (wr.setCell ⟨g, r, none⟩ v) g 5 (bv (opBr x m (r + 1))) ∧ Below w.heap.size w (wr.setCell ⟨g, r, none⟩ v)) := Lib.hid fun v hv => by
      refine ⟨HI.out.1.far (by have := HBG.out; show b0 ≠ g; omega) _, ?_, HI.out.2.2.setCell HGW.out _⟩
      have := HI.out.2.1.store r v
      rw [← opBr_set x hlt]
      rw [hv] at this ⊢
      have e2 : (bv (opBr x m r)).set r (.int .u8 (((x + UInt8.ofNat (r * r)).toNat : Nat) : Int)) = bv ((opBr x m r).set r (x + UInt8.ofNat (r * r))) := by
        simp [bv, List.map_set]
      rw [e2] at this
      exact this
    obtain ⟨q, hq⟩ : ∃ q, x + UInt8.ofNat (r * r) = q := ⟨_, rfl⟩
    rw [hq] at HW5 HN
    clear hq
    go_wp2
    go_roundw
    case rel => exact ⟨r + 1, by omega, by go_num, HN.out _ (by rw [HW5.out])⟩
    case measure => simp [intOf]; omega
end Go.Proofs.Yteemdjamgbbjhaa.Wl

/-
  What a log tells, as a state of the statements'.
-/
namespace Go.Proofs.Yteemdjamgbbjhaa.Wl
set_option maxRecDepth 100000
open Go.RowKit Go.Shelf Go.Proofs.Yteemdjamgbbjhaa.Wd Go.Proofs.Yteemdjamgbbjhaa.Dsk Go.Proofs.Yteemdjamgbbjhaa.Oct Go.Proofs.Yteemdjamgbbjhaa.Sum Go.Proofs.Yteemdjamgbbjhaa.Beq

attribute [local go_sem] Oper.semAt_some

theorem wp_append_placed {P : Program} {w : World} {o : Oper} {a : Act} {K : Act → World → Prop} {Q : Exit → Act → World → Prop} (s x : Operand) (t : TypeId)
    (ho : o.op = .call { callee := .builtin .append, args := #[s, x], argTypes := #[t, t] })
    (e : TypeId) (i : TypeInfo) (z : Value) (bytes : Nat) (ht : P.underlying t = some (.slice e)) (hi : P.info? e = some i) (hz : i.zero = some z) (hsize : i.size = 1) (hby : i.bytes = bytes) (hzs : z.cells.size = 1)
    (v : Value) (n : Nat) (xs : List Value) (hs : a.eval s = v) (hown : w.ownsRow 0 e 1 v n xs)
    (ad : Addr) (m c : Nat) (news : List Value) (hx : a.eval x = .slice (some ad) m c) (hl : news.length = m * 1) (hnews : ∀ j u, news[j]? = some u → w.cell? (ad.add j) = some u) (h1 : ∀ u ∈ news, u.oneCell' = true)
    (h63 : n + m ≤ maxLen) (hbytes : (n + m) * bytes ≤ 140737488355328)
    (h : ∀ v' w', w'.ownsRow 0 e 1 v' (n + m) (xs ++ news) → w.grownBy w' v.ownBlock → (∀ b, v'.ownBlock = some b → v.ownBlock = some b ∨ w.heap.size ≤ b) → K (a.put o.dst v') w') : o.wp P a w K Q := by
  obtain ⟨v', w', hr, h2, h3, h4⟩ := run_append_own (P := P) w 0 t o.type e i z 1 bytes ht hi hz hsize hby hzs (by decide) v n xs hown ad m c news hl hnews h1 h63 hbytes (Nat.zero_le _)
  have hp := append_place ht hi hz hsize hby hzs (by decide) hown hl hnews h1 h63 hbytes hr
  unfold Oper.wp
  simp [execOp, ho, resolve, invoke, builtin, hs, hx, hr, Result.andThen]
  exact h v' w' h2 h3 hp
theorem wpListIn_append_placed {P : Program} {w : World} {l n0 : Nat} {ops : Array Oper} {rest : List Oper} {o : Oper} {a : Act} {Q : Exit → Act → World → Prop} (hgd : o.guard = none) (s x : Operand) (t : TypeId)
    (ho : o.op = .call { callee := .builtin .append, args := #[s, x], argTypes := #[t, t] })
    (e : TypeId) (i : TypeInfo) (z : Value) (bytes : Nat) (ht : P.underlying t = some (.slice e)) (hi : P.info? e = some i) (hz : i.zero = some z) (hsize : i.size = 1) (hby : i.bytes = bytes) (hzs : z.cells.size = 1)
    (v : Value) (n : Nat) (xs : List Value) (hs : a.eval s = v) (hown : w.ownsRow 0 e 1 v n xs)
    (ad : Addr) (m c : Nat) (news : List Value) (hx : a.eval x = .slice (some ad) m c) (hl : news.length = m * 1) (hnews : ∀ j u, news[j]? = some u → w.cell? (ad.add j) = some u) (h1 : ∀ u ∈ news, u.oneCell' = true)
    (h63 : n + m ≤ maxLen) (hbytes : (n + m) * bytes ≤ 140737488355328)
    (h : ∀ v' w', w'.ownsRow 0 e 1 v' (n + m) (xs ++ news) → w.grownBy w' v.ownBlock → (∀ b, v'.ownBlock = some b → v.ownBlock = some b ∨ w.heap.size ≤ b) → wpListIn (Fence.wide.inRound l) n0 P ops Q rest (a.put o.dst v') w') : wpListIn (Fence.wide.inRound l) n0 P ops Q (o :: rest) a w :=
  wpListIn_plain hgd fun K hK => op_in2 (fun c e => by rw [ho] at e; cases e) (wp_append_placed s x t ho e i z bytes ht hi hz hsize hby hzs v n xs hs hown ad m c news hx hl hnews h1 h63 hbytes fun v' w' q1 q2 q3 => hK _ _ (h v' w' q1 q2 q3))
theorem size60 : (Try.prog.info? 60).map (·.size) = some 2 := by kernel_rfl
/-- a state's cells -/
def scs (As : Option Addr) (ns cs : Nat) (Al : Option Addr) (nl cl : Nat) : List Value := [.slice As ns cs, .slice Al nl cl]
theorem scs_one (As : Option Addr) (ns cs : Nat) (Al : Option Addr) (nl cl : Nat) : ∀ v ∈ scs As ns cs Al nl cl, v.oneCell' = true := by
  intro v hv
  simp only [scs, List.mem_cons, List.not_mem_nil, or_false] at hv
  rcases hv with rfl | rfl <;> rfl
/-- a state that a world holds: bytes b and the list fs, from block lo on -/
def StV (w : World) (lo : Nat) (v : Value) (b : List UInt8) (fs : List (List UInt8)) : Prop :=
  ∃ As ns cs Al cl, v = .agg (scs As ns cs Al fs.length cl).toArray ∧ By w As ns cs b ∧ ns ≤ 40000 ∧ (∀ k, (Value.slice As ns cs).ownBlock = some k → lo ≤ k) ∧ Frs w lo Al cl fs
theorem Frs.keep {W W' : World} {base cc : Nat} {A : Option Addr} {fs : List (List UInt8)} (h : Frs W base A cc fs) (hk : ∀ k, base ≤ k → k < W.heap.size → W'.heap[k]? = W.heap[k]?) : Frs W' base A cc fs := by
  obtain ⟨xs, h1, h2, h3⟩ := h
  exact ⟨xs, own_kept h1 (fun k hkb hlt => hk k (h2 k hkb) hlt), h2, fun i hi => by
    obtain ⟨Ai, ni, ci, q1, q2, q3, q4⟩ := h3 i hi
    exact ⟨Ai, ni, ci, q1, own_kept q2 (fun k hkb hlt => hk k (q4 k hkb) hlt), q3, q4⟩⟩
theorem StV.keep {w w' : World} {lo : Nat} {v : Value} {b : List UInt8} {fs : List (List UInt8)} (h : StV w lo v b fs) (hk : ∀ k, lo ≤ k → k < w.heap.size → w'.heap[k]? = w.heap[k]?) : StV w' lo v b fs := by
  obtain ⟨As, ns, cs, Al, cl, h1, h2, h3, h4, h5⟩ := h
  exact ⟨As, ns, cs, Al, cl, h1, own_kept h2 (fun k hkb hlt => hk k (h4 k hkb) hlt), h3, h4, h5.keep hk⟩
theorem StV.below {w w' : World} {lo : Nat} {v : Value} {b : List UInt8} {fs : List (List UInt8)} (h : StV w lo v b fs) (hb : Below w.heap.size w w') : StV w' lo v b fs := h.keep fun k _ hlt => hb.block k hlt
theorem snapshot_own (g dg area t n c used : Nat) (A : Option Addr) (br : Bool) (xs : List Value) (A0 : Option Addr) (m c0 : Nat) (b : List UInt8) (w : World) (h : Row w g 83 (wcs dg area t A (n + 1) c used br))
    (ho : w.ownsRow 0 37 1 (.slice A (n + 1) c) (n + 1) xs) (hx : xs[0]? = some (.slice A0 m c0)) (hb : By w A0 m c0 b) (hm : m ≤ 40000) :
    Calls Try.prog 22 #[.pointer (some ⟨g, 0, none⟩)] w fun e w' => ∃ A' c', e = .returned (.slice A' m c') ∧ By w' A' m c' b ∧ (∀ k, (Value.slice A' m c').ownBlock = some k → w.heap.size ≤ k) ∧ Below w.heap.size w w' := by
  have c3 : w.cell? ⟨g, 3, none⟩ = some (.slice A (n + 1) c) := h.cell 3
  obtain ⟨gx, rfl, hc0⟩ : ∃ gx, A = some ⟨gx, 0, none⟩ ∧ w.cell? ⟨gx, 0, none⟩ = some (.slice A0 m c0) := by
    rcases ho with ⟨hl, hv | ⟨gx, cap, cur, hv, _, hg, h1, h2, h3, h4⟩⟩
    · cases hv.2
    · cases hv
      refine ⟨gx, rfl, ?_⟩
      rw [cell_of_row w gx 0 cur _ (0, 0) hg]
      rw [← h4, List.getElem?_take_of_lt (by omega)] at hx
      simpa using hx
  have HC := Lib.hid (clone_own A0 b c0 m w hb.sl (by omega))
  go_enter Try.func22, Try.ntmps22
  go_wp2_with fail
  refine HC.out.mono ?_
  rintro e w2 ⟨A2, c2, rfl, h1, h2, h3⟩
  go_wp2
  go_ret
  exact ⟨A2, c2, rfl, h1, h2, h3⟩
theorem getD_lt {α : Type} (l : List α) (i : Nat) (d : α) (h : i < l.length) : l[i] = l.getD i d := by
  rw [List.getD_eq_getElem?_getD, List.getElem?_eq_getElem h]; rfl
theorem grown_setAt (W : World) (p : Addr) (v : Value) : W.grownBy (W.setCell p v) (some p.block) :=
  ⟨rfl, rfl, rfl, by simp [World.setCell], fun k _ hne => Below.heap_setCell W p v k (fun e => hne (by rw [e]))⟩
/-- what the rounds hold -/
structure TI (w : World) (B3 B : Nat) (As : Option Addr) (ns cs : Nat) (b0 : List UInt8) (L : List (List UInt8)) (pre : List EA) (W : World) : Prop where
  r2 : Row W w.heap.size 60 (scs none 0 0 none 0 0)
  st : ∃ Al cl, Row W B3 60 (scs As ns cs Al pre.length cl) ∧ Frs W B Al cl (L.take pre.length) ∧ pre.length ≤ L.length
  by0 : By W As ns cs b0
  hb : Below w.heap.size w W
  sz : B ≤ W.heap.size
def TAx (L : List (List UInt8)) (B : Nat) (tm : Value → Value → Value → Array Value) (pre : List EA) (x : EA) (a' : Act) (W : World) : Prop :=
  ∃ v11, a' = { tmps := tm v11 (.slice x.2.1 x.2.2.1 x.2.2.2) (.slice x.2.1 x.2.2.1 x.2.2.2), defers := [] } ∧ pre.length < L.length ∧ By W x.2.1 x.2.2.1 x.2.2.2 (L.getD pre.length []) ∧ x.2.2.1 ≤ 40000 ∧ (∀ k, (Value.slice x.2.1 x.2.2.1 x.2.2.2).ownBlock = some k → B ≤ k)
/-- what is told -/
def Tld (w w' : World) (b : List UInt8) (fs : List (List UInt8)) (e : Ending) : Prop := ∃ v, e = .returned v ∧ StV w' w.heap.size v b fs ∧ Below w.heap.size w w'
theorem load_state {W : World} {b : Nat} {cs : List Value} (h : Row W b 60 cs) (hl : cs.length = 2) : (loadVar 60 ⟨b, 0, none⟩).run Try.prog W = .ok (.agg cs.toArray) W :=
  run_loadVar_mid W b 0 60 cs _ (Row.all h) Try.underlying60 rfl (by rw [hl]; exact size60)
set_option maxHeartbeats 8000000 in
theorem told_any (g dg area t : Nat) (fs : List (List UInt8)) (br : Bool) (G : Nat → Prop) (w : World) (hlog : Log w G g dg area t fs br) (hG : ∀ k, G k → k < w.heap.size) (hne : fs ≠ []) (hn : fs.length ≤ 10000) :
    Calls Try.prog 35 #[.pointer (some ⟨g, 0, none⟩)] w fun e w' => Tld w w' (fs.getD 0 []) (fs.drop 1) e := by
  have mixed : Try.prog.follows .mixedOrders = true := by kernel_rfl
  obtain ⟨A, c, xs, hrow, hown, hGg, hGA, hat⟩ := hlog
  obtain ⟨n, hfn⟩ : ∃ n, fs.length = n + 1 := ⟨fs.length - 1, by cases fs with | nil => exact absurd rfl hne | cons a l => simp⟩
  obtain ⟨A0, m0, c0, hx0, hby0, hm0, hG0⟩ := hat 0 (by omega)
  have HAT := Lib.hid hat
  have HFN := Lib.hid hfn
  rw [hfn] at hrow hown hGA
  have HROW := Lib.hid hrow
  have HOWN := Lib.hid hown
  have HGA := Lib.hid hGA
  have HG := Lib.hid hG
  have HX0 := Lib.hid hx0
  have HBY0 := Lib.hid hby0
  clear hrow hown hGA hat hx0 hby0 hG0 hG hne hfn
  refine (callsIn_wide (n := 9)).1 ?_
  refine callsIn_of_wp_marks Try.func35 rfl trivial ?_ rfl
  refine wpIn_wide.2 ?_
  simp only [Try.ntmps35, List.size_toArray, List.length_cons, List.length_nil, Nat.reduceAdd, Nat.reduceSub, Array.replicate_succ, Array.replicate_zero, List.push_toArray, List.append_toArray, List.nil_append, List.cons_append]
  go_wp2_with fail
  have hr2 : Row (w.alloc (.cells #[.slice none 0 0, .slice none 0 0] 60)) w.heap.size 60 (scs none 0 0 none 0 0) := Row.new w _ _
  have hb1 : Below w.heap.size w (w.alloc (.cells #[.slice none 0 0, .slice none 0 0] 60)) := (Below.refl _ _).alloc (Nat.le_refl _) _
  generalize w.alloc (.cells #[.slice none 0 0, .slice none 0 0] 60) = w1 at hr2 hb1 ⊢
  refine (snapshot_own g dg area t n c (usedM fs) A br xs A0 m0 c0 (fs.getD 0 []) w1 (HROW.out.below hb1 HROW.out.lt) (own_below HOWN.out hb1) HX0.out (own_below HBY0.out hb1) hm0).mono ?_
  rintro e w2 ⟨As, cs, rfl, hby, hnew, hb2⟩
  have HBY := Lib.hid hby
  have HNEW : Hid (∀ k, (Value.slice As m0 cs).ownBlock = some k → w.heap.size ≤ k) := Lib.hid fun k hk => Nat.le_trans hb1.size (hnew k hk)
  have HB2 := Lib.hid (hb1.trans (hb2.mono hb1.size))
  have HR2 := Lib.hid (hr2.below hb2 hr2.lt)
  clear hby hnew hb2 hr2 hb1
  have HLS := Lib.hid fun (As : Option Addr) (ns cs : Nat) (Al : Option Addr) (nl cl : Nat) => (show (scs As ns cs Al nl cl).length = (scs none 0 0 none 0 0).length from rfl)
  have HI2 := Lib.hid fun (As : Option Addr) (ns cs : Nat) (Al : Option Addr) (nl cl : Nat) => (show (Try.prog.info? 60).map (·.size) = some (scs As ns cs Al nl cl).length from size60)
  go_wp2_with (first
    | (with_reducible refine wpList_store_whole (op := ⟨none, _, _, _, _, _⟩) ?_ 60 (.tmp 3) (.tmp 8) ?_ w2.heap.size (scs As m0 cs none 0 0) ?_ ?_ 60 (scs none 0 0 none 0 0) ?hrow (HLS.out _ _ _ _ _ _) (scs_one _ _ _ _ _ _) (HI2.out _ _ _ _ _ _) ?_))
  case hrow => exact Row.new w2 _ (scs none 0 0 none 0 0)
  all_goals try (first | rfl | (simp; done))
  intro w3 hr3 hg3
  have hb23 : Below w2.heap.size w2 w3 := ((Below.refl _ _).alloc (Nat.le_refl _) _).grown hg3 (by simp) (fun k hk => by cases hk; exact Nat.le_refl _)
  obtain ⟨B3, hB3⟩ : ∃ B3, w2.heap.size = B3 := ⟨_, rfl⟩
  have HB3W : Hid (w.heap.size < B3) := Lib.hid (by rw [← hB3]; exact HR2.out.lt)
  rw [hB3] at hr3
  have HR3 := Lib.hid hr3
  have HB3 := Lib.hid (HB2.out.trans (hb23.mono HB2.out.size))
  have HR23 := Lib.hid (HR2.out.below hb23 HR2.out.lt)
  have HBY3 := Lib.hid (own_below HBY.out hb23)
  clear hr3 hg3 hb23 HBY HR2
  have hrow3 := HROW.out.below HB3.out HROW.out.lt
  go_wp2_with fail
  rw [hB3]
  clear hB3
  refine (all_log g dg area t (n + 1) c (usedM fs) A br w3 hrow3).mono ?_
  rintro e w7 ⟨rfl, hb7, hr7⟩
  obtain ⟨Bf, hBf⟩ : ∃ Bf, w3.heap.size = Bf := ⟨_, rfl⟩
  obtain ⟨B, hB⟩ : ∃ B, w7.heap.size = B := ⟨_, rfl⟩
  have HLT : Hid (w.heap.size < B3 ∧ B3 < Bf ∧ Bf < B) := Lib.hid ⟨HB3W.out, by rw [← hBf]; exact HR3.out.lt, by rw [← hBf, ← hB]; exact hr7.lt⟩
  have HB7 := Lib.hid (HB3.out.trans (hb7.mono HB3.out.size))
  have HFA : Hid (FA w7 (fun k => G k ∨ k = Bf) Bf A c fs) := Lib.hid (by
    refine ⟨by rw [HFN.out, ← hBf]; exact hr7.cell 0, .inr rfl, fun k hk => ?_, fun i hi => ?_⟩
    · rcases hk with hk | hk
      · exact Nat.lt_of_lt_of_le (HG.out k hk) HB7.out.size
      · rw [hk, ← hBf]; exact hr7.lt
    · have hrow5 := HOWN.out
      rcases hrow5 with ⟨hxl, hv | ⟨gx, cap, cur, hv, _, hg, q1, q2, q3, q4⟩⟩
      · exact absurd hv.2 (by omega)
      · cases hv
        have hgx := HGA.out gx rfl
        obtain ⟨Ai, ni, ci, s1, s2, s3, s4⟩ := HAT.out i hi
        refine ⟨gx, rfl, .inl hgx, Ai, ni, ci, ?_, own_below s2 HB7.out, s3, fun k hk => .inl (s4 k hk)⟩
        rw [World.cell?_of_block (a := ⟨gx, i, none⟩) (HB7.out.block gx (HG.out _ hgx)), cell_of_row w gx i cur _ (0, 0) hg]
        rw [← q4, List.getElem?_take_of_lt (by rw [HFN.out] at hi; omega)] at s1
        simpa using s1)
  have HR37 := Lib.hid (HR3.out.below hb7 HR3.out.lt)
  have HR27 := Lib.hid (HR23.out.below hb7 HR23.out.lt)
  have HBY7 := Lib.hid (own_below HBY3.out hb7)
  have HSZ7 := Lib.hid hB
  rw [hBf]
  clear hr7 hb7 hBf hB hrow3 HR3 HR23 HBY3 HROW
  go_wp2_with fail
  refine (wpIn_wide (n := 9)).1 ?_
  have HOWI : Hid (w7.heap.size = B) := HSZ7
  refine range_feeds (n := 9) (by omega) (gf := 65) (lb := #[.pointer (some ⟨Bf, 0, none⟩)]) rfl (enters_of Try.func65 (by kernel_rfl) rfl)
    (encs := encA) (G := GA) (T := TA fs w7.heap.size) (Ok := fun _ => True) (Kp := KpA (fun k => G k ∨ k = Bf)) (S := fun xs _ => xs.length = fs.length - 1) (Sp := fun _ _ => True) ?feeds (fun h k => h.trans k) ?hKb (fun _ => rfl)
    (TI w B3 B As m0 cs (fs.getD 0 []) (fs.drop 1)) (fun _ _ => False) ?hG ?hIa ?hI ?hIx ?hIp ?hIxp ?h0 (TAx (fs.drop 1) B (fun v11 v12 v5 => #[.pointer (some ⟨g, 0, none⟩), undef, .pointer (some ⟨w.heap.size, 0, none⟩), .pointer (some ⟨B3, 0, none⟩), undef, v5, .pointer (some ⟨g, 0, none⟩), .slice As m0 cs, .agg #[.slice As m0 cs, .slice none 0 0], .pointer (some ⟨g, 0, none⟩), .func (.func 65) #[] #[.pointer (some ⟨Bf, 0, none⟩)], v11, v12, undef, undef, undef, undef, undef, undef, undef])) ?hAx ?assign ?body ?done ?stop
  case feeds => exact all_feeds Bf 8 c A fs (fun k => G k ∨ k = Bf) w7 (by omega) (by omega) HFA.out
  case hKb =>
    intro W l o o' hl ho hc
    exact ⟨fun k hk => World.putObj_heap_other (by
      have := HLT.out
      have := HSZ7.out
      rcases hk with hk | hk
      · have := HG.out k hk; omega
      · omega), (grownBy_putObj' W l o').size⟩
  case hG =>
    intro X Y k o hg hk ho hc
    exact (hg.block k (Array.getElem?_eq_some_iff.1 ho).1).trans ho
  case hIa =>
    rintro s W o ⟨h1, ⟨Al, cl, h2, h3, h4⟩, h5, h6, h7⟩
    have hb : Below W.heap.size W (W.alloc o) := (Below.refl _ _).alloc (Nat.le_refl _) _
    exact ⟨h1.below hb h1.lt, ⟨Al, cl, h2.below hb h2.lt, h3.keep (fun k _ hlt => hb.block k hlt), h4⟩, own_below h5 hb, h6.trans (hb.mono h6.size), Nat.le_trans h7 hb.size⟩
  case hI =>
    rintro s X Y ⟨h1, ⟨Al, cl, h2, h3, h4⟩, h5, h6, h7⟩ hb
    exact ⟨h1.below hb h1.lt, ⟨Al, cl, h2.below hb h2.lt, h3.keep (fun k _ hlt => hb.block k hlt), h4⟩, own_below h5 hb, h6.trans (hb.mono h6.size), Nat.le_trans h7 hb.size⟩
  case hIx => exact fun _ _ _ h _ => h
  case hIp =>
    rintro s W l o o' hl ho hc ⟨h1, ⟨Al, cl, h2, ⟨xs', q1, q2, q3⟩, h4⟩, h5, h6, h7⟩
    have hg := grownBy_putObj' W l o'
    have := HLT.out
    refine ⟨row_putL h1 ho hc, ⟨Al, cl, row_putL h2 ho hc, ⟨xs', own_put q1 ho hc, q2, fun i hi => ?_⟩, h4⟩, own_put h5 ho hc, h6.grown hg h6.size (fun q e => by have := Option.some.inj e; have := HSZ7.out; omega), Nat.le_trans h7 hg.size⟩
    obtain ⟨Ai, ni, ci, s1, s2, s3, s4⟩ := q3 i hi
    exact ⟨Ai, ni, ci, s1, own_put s2 ho hc, s3, s4⟩
  case hIxp => exact fun _ _ _ _ _ _ _ _ h => h
  case h0 => exact ⟨HR27.out, ⟨none, 0, HR37.out, by rw [List.length_nil, List.take_zero]; exact Frs.nil _ _, Nat.zero_le _⟩, HBY7.out, HB7.out, Nat.le_of_eq HSZ7.out.symm⟩
  case hAx =>
    rintro pre x a' _ W l o o' hl ho hc ⟨v11, h1, h2, h3, h4, h5⟩
    exact ⟨v11, h1, h2, own_put h3 ho hc, h4, h5⟩
  case assign =>
    intro yl pre x W K ht hI hK
    have HT := Lib.hid ht
    have HI := Lib.hid hI
    have HK := Lib.hid hK
    clear ht hI hK
    unfold encA
    gi_wp2
    refine HK.out _ W (KeepsFrom.refl _ _) (KpA.refl _ _) HI.out ⟨_, rfl, ?_, ?_, HT.out.most, fun k hk => by rw [← HSZ7.out]; exact HT.out.new k hk⟩
    · have h1 := HT.out.num
      have h2 := HT.out.lt
      rw [List.length_drop]
      omega
    · have h1 := HT.out.by_
      rw [HT.out.num] at h1
      rw [List.getD_eq_getElem?_getD, List.getElem?_drop, ← List.getD_eq_getElem?_getD, Nat.add_comm 1]
      exact h1
  case body =>
    rintro yl pre ⟨i1, Ax, nx, cx⟩ a' W hyl hr ⟨h1, ⟨Al, cl, h2, h3, h4⟩, h5, h6, h7⟩ ⟨v11, rfl, hlt, hby, hmx, hnew⟩
    dsimp only at hby hmx hnew ⊢
    obtain ⟨i0, hi0, hz0, hz1, hz2⟩ := info_parts info37
    obtain ⟨xs', q1, q2, q3⟩ := h3
    have hpl : (List.take pre.length (fs.drop 1)).length = pre.length := by rw [List.length_take]; omega
    rw [hpl] at q1 q2 q3
    have hwa : Below W.heap.size W (W.alloc (.cells #[.slice Ax nx cx] 37)) := (Below.refl _ _).alloc (Nat.le_refl _) _
    have HO := Lib.hid (own_below q1 hwa)
    have HO0 := Lib.hid q1
    have HQ2 := Lib.hid q2
    have HQ3 := Lib.hid q3
    have H1 := Lib.hid h1
    have H2 := Lib.hid h2
    have H5 := Lib.hid h5
    have H6 := Lib.hid h6
    have H7 := Lib.hid h7
    have HBX := Lib.hid hby
    have HNX := Lib.hid hnew
    have HPL := Lib.hid hpl
    have c1 : W.cell? ⟨B3, 1, none⟩ = some (.slice Al pre.length cl) := h2.cell 1
    have hpl4 : pre.length ≤ 10000 := by have := hlt; rw [List.length_drop] at this; omega
    clear q1 q2 q3 h1 h2 h5 h6 h7 hby hnew hpl hr hwa
    have HNW : Hid (∀ j u, ([Value.slice Ax nx cx] : List Value)[j]? = some u → (W.alloc (.cells #[.slice Ax nx cx] 37)).cell? ((⟨W.heap.size, 0, none⟩ : Addr).add j) = some u) := Lib.hid (cells_one W _ _)
    gi_wp2_with (first
      | (with_reducible refine wpListIn_append_placed (o := ⟨some 17, _, _, _, _, _⟩) ?_ (.tmp 14) (.tmp 16) 58 ?_ 37 i0 (.slice none 0 0) 24 Try.underlying58 hi0 hz0 hz1 hz2 ?_ (.slice Al pre.length cl) pre.length xs' ?_ HO.out ⟨W.heap.size, 0, none⟩ 1 1 [.slice Ax nx cx] ?_ ?_ HNW.out ?_ ?_ ?_ ?_))
    all_goals try (first | rfl | (simp [Value.oneCell']; done) | (unfold maxLen; omega) | omega)
    intro v4 w4 hown4 hg4 hp4
    have hwa : Below W.heap.size W (W.alloc (.cells #[.slice Ax nx cx] 37)) := (Below.refl _ _).alloc (Nat.le_refl _) _
    have hWg : W.grownBy w4 (Value.slice Al pre.length cl).ownBlock := grown_of_below hwa hg4
    obtain ⟨A4, c4, rfl⟩ : ∃ A4 c4, v4 = .slice A4 (pre.length + 1) c4 := by
      rcases hown4.2 with ⟨_, h0⟩ | ⟨g', cap, cur, hv, _⟩
      · omega
      · exact ⟨_, _, hv⟩
    have r34 := own_apart HO0.out hWg H2.out (by decide)
    have c14 : w4.cell? ⟨B3, 1, none⟩ = some (.slice Al pre.length cl) := r34.cell 1
    have f14 := r34.frozen 1
    have hnB : some B3 ≠ (Value.slice A4 (pre.length + 1) c4).ownBlock := fun e => by
      obtain ⟨cs', hr'⟩ := own_type hown4 e.symm
      exact absurd (row_type r34 hr') (by decide)
    obtain ⟨w5, hw5⟩ : ∃ w5, w5 = w4.setCell ⟨B3, 1, none⟩ (.slice A4 (pre.length + 1) c4) := ⟨_, rfl⟩
    have hg5 : w4.grownBy w5 (some B3) := by rw [hw5]; exact grown_setAt w4 _ _
    have hr5 : Row w5 B3 60 (scs As m0 cs A4 (pre.length + 1) c4) := by
      rw [hw5]
      exact r34.store 1 (.slice A4 (pre.length + 1) c4)
    have hlt5 := HLT.out
    have hsz5 := HSZ7.out
    have hkeep : ∀ k, k < B → k ≠ B3 → w5.heap[k]? = W.heap[k]? := fun k hk hne => by
      have hkW : k < W.heap.size := Nat.lt_of_lt_of_le hk H7.out
      rw [hg5.block k (Nat.lt_of_lt_of_le hkW hWg.size) (fun e => hne (Option.some.inj e)), hWg.block k hkW (fun e => by have := HQ2.out k e.symm; omega)]
    have hu8 : ∀ k cs', Row W k 5 cs' → Row w5 k 5 cs' := fun k cs' hr' => (own_apart HO0.out hWg hr' (by decide)).grown hg5 (fun e => by
      have e2 := Option.some.inj e
      exact absurd (row_type (own_apart HO0.out hWg hr' (by decide)) (e2 ▸ r34)) (by decide))
    have hFr : Frs w5 B A4 c4 ((fs.drop 1).take (pre.length + 1)) := by
      have hlen : pre.length < (fs.drop 1).length := hlt
      rw [List.take_succ_eq_append_getElem hlen]
      have hgd : (fs.drop 1)[pre.length] = (fs.drop 1).getD pre.length [] := getD_lt _ _ _ hlen
      rw [hgd]
      have hsn := Frs.snoc (W := W) (W' := w5) (base := B) (A := Al) (cc := cl) (fs := (fs.drop 1).take pre.length) (b := (fs.drop 1).getD pre.length []) (A2 := Ax) (m := nx) (c2 := cx) (A' := A4) (cc' := c4) (xs := xs') H7.out
      rw [HPL.out] at hsn
      refine hsn HQ3.out HQ2.out (by have := HO0.out.1; omega) HBX.out hmx HNX.out ?_ ?_ hu8
      · exact own_kept hown4 (fun k hk hlt' => hg5.block k hlt' (fun e => hnB (by rw [← e]; exact hk.symm)))
      · intro k hk
        rcases hp4 k hk with h | h
        · exact .inl h
        · exact .inr (by omega)
    have HE : Hid (roundEnds w7.heap.size (fun _ => True) (KpA (fun k => G k ∨ k = Bf)) (TI w B3 B As m0 cs (fs.getD 0 []) (fs.drop 1)) (fun _ _ => False) pre (i1, Ax, nx, cx) W .normal { tmps := #[], defers := [] } w5) := Lib.hid (by
      refine ⟨⟨Nat.le_trans hWg.size hg5.size, fun k o _ hk ho => ?_⟩, trivial, ⟨fun k hk => ?_, Nat.le_trans hWg.size hg5.size⟩, ?_, ⟨A4, c4, ?_, ?_, ?_⟩, ?_, ?_, Nat.le_trans H7.out (Nat.le_trans hWg.size hg5.size)⟩
      · have h4' := own_apart2 HO0.out hWg hk ho
        refine (hg5.block k (Array.getElem?_eq_some_iff.1 h4').1 (fun e => ?_)).trans h4'
        have e2 := Option.some.inj e
        rw [e2, show w4.heap[B3]? = _ from r34] at h4'
        cases h4'
        cases ho
      · refine hkeep k ?_ ?_
        · rcases hk with hk | hk
          · have := HG.out k hk; omega
          · omega
        · rcases hk with hk | hk
          · have := HG.out k hk; omega
          · omega
      · exact (own_apart HO0.out hWg H1.out (by decide)).grown hg5 (fun e => by have := Option.some.inj e; omega)
      · rw [List.length_append]; exact hr5
      · rw [List.length_append]; exact hFr
      · rw [List.length_append]; exact hlt
      · exact own_kept H5.out (fun k hk hlt' => by
          refine (hg5.block k (Nat.lt_of_lt_of_le hlt' hWg.size) (fun e => ?_)).trans (hWg.block k hlt' (fun e => ?_))
          · have e2 := Option.some.inj e
            obtain ⟨cs', hr'⟩ := own_type H5.out hk
            exact absurd (row_type hr' (e2 ▸ H2.out)) (by decide)
          · obtain ⟨cs', hr'⟩ := own_type H5.out hk
            obtain ⟨cs2, hr2'⟩ := own_type HO0.out e.symm
            exact absurd (row_type hr' hr2') (by decide))
      · exact (H6.out.grown hWg H6.out.size (fun q e => by have := HQ2.out q e; omega)).grown hg5 (Nat.le_trans H6.out.size hWg.size) (fun q e => by have := Option.some.inj e; omega))
    clear hown4 hg4 hp4 hwa hWg r34 hnB hg5 hr5 hkeep hu8 hFr HO HO0 HQ2 HQ3 H1 H2 H5 H6 H7 HNW
    gi_wp2
    rw [← hw5]
    exact HE.out
  case stop => exact fun _ _ _ _ _ _ h => h.elim
  case done =>
    rintro D xs2 W W' hD hS ⟨h1, ⟨Al, cl, h2, h3, h4⟩, h5, h6, h7⟩ hg hdf
    have hxl : xs2.length = (fs.drop 1).length := by rw [List.length_drop]; exact hS
    rw [hxl] at h2 h3
    rw [List.take_length] at h3
    obtain ⟨nl, hnl⟩ : ∃ nl, (fs.drop 1).length = nl := ⟨_, rfl⟩
    have HNL := Lib.hid hnl
    rw [hnl] at h2
    have H1 := Lib.hid h1
    have H2 := Lib.hid h2
    have H3 := Lib.hid h3
    have H5 := Lib.hid h5
    have H6 := Lib.hid h6
    have HDF := Lib.hid hdf
    have HD7 : Hid (w.heap.size < D ∧ B3 < D ∧ B ≤ D) := Lib.hid (by have := HLT.out; have := HSZ7.out; omega)
    have HSW : Hid (B ≤ W'.heap.size) := Lib.hid h7
    clear h1 h2 h3 h4 h5 h6 h7 hdf hS hxl hg hD hnl
    go_wp2_with (first
      | (with_reducible refine wpList_load_row (op := ⟨some 19, _, _, _, _, _⟩) ?_ 60 (.tmp 3) ?_ B3 0 ?_ (scs As m0 cs Al nl cl) _ (Row.all H2.out) Try.underlying60 ?_ (HI2.out _ _ _ _ _ _) ?_)
      | (with_reducible refine wpList_store_whole (op := ⟨none, _, _, _, _, _⟩) ?_ 60 (.tmp 2) (.tmp 19) ?_ w.heap.size (scs As m0 cs Al nl cl) ?_ ?_ 60 (scs none 0 0 none 0 0) H1.out (HLS.out _ _ _ _ _ _) (scs_one _ _ _ _ _ _) (HI2.out _ _ _ _ _ _) ?_))
    all_goals try (first | rfl | (simp; done))
    intro w5 hr5 hg5
    have hne : ∀ k, k ≠ w.heap.size → k < W'.heap.size → w5.heap[k]? = W'.heap[k]? := fun k hk hlt => hg5.block k hlt (fun e => hk (Option.some.inj e))
    have HD5 : Hid (w5.heap[D]? = some (.deferred (some []))) := Lib.hid ((hne D (by have := HD7.out; omega) (Array.getElem?_eq_some_iff.1 HDF.out).1).trans HDF.out)
    have HST : Hid (StV w5 w.heap.size (.agg (scs As m0 cs Al nl cl).toArray) (fs.getD 0 []) (fs.drop 1)) := Lib.hid (by
      refine ⟨As, m0, cs, Al, cl, by rw [HNL.out], own_kept H5.out (fun k hk hlt => hne k (fun e => ?_) hlt), hm0, HNEW.out, ?_⟩
      · obtain ⟨cs', hr'⟩ := own_type H5.out hk
        exact absurd (row_type hr' (e ▸ H1.out)) (by decide)
      · obtain ⟨xs', q1, q2, q3⟩ := H3.out
        have hBw : w.heap.size < B := by have := HLT.out; omega
        refine ⟨xs', own_kept q1 (fun k hk hlt => hne k (by have := q2 k hk; omega) hlt), fun k hk => by have := q2 k hk; omega, fun i hi => ?_⟩
        obtain ⟨Ai, ni, ci, s1, s2, s3, s4⟩ := q3 i hi
        exact ⟨Ai, ni, ci, s1, own_kept s2 (fun k hk hlt => hne k (by have := s4 k hk; omega) hlt), s3, fun k hk => by have := s4 k hk; omega⟩)
    have HBW : Hid (Below w.heap.size w w5) := Lib.hid (H6.out.grown hg5 H6.out.size (fun q e => by have := Option.some.inj e; omega))
    have HR5 := Lib.hid hr5
    clear hr5 hg5 hne
    go_wp2_with fail
    refine ⟨by simp, .inl ⟨_, _, rfl, run_takeDeferred HD5.out, ?_⟩⟩
    have h2' := row_putL (ob' := .deferred none) HR5.out HD5.out rfl
    have hgp := grownBy_putObj' w5 D (.deferred none)
    refine ⟨.agg (scs As m0 cs Al nl cl).toArray, results_cell (p := 2) (ty := 60) rfl _ _ ⟨w.heap.size, 0, none⟩ _ rfl (load_state h2' rfl), _, rfl, ?_, HBW.out.grown hgp HBW.out.size (fun q e => by have := Option.some.inj e; have := HD7.out; omega)⟩
    obtain ⟨As', ns', cs', Al', cl', q1, q2, q3, q4, ⟨xs', s1, s2, s3⟩⟩ := HST.out
    refine ⟨As', ns', cs', Al', cl', q1, own_put q2 HD5.out rfl, q3, q4, ⟨xs', own_put s1 HD5.out rfl, s2, fun i hi => ?_⟩⟩
    obtain ⟨Ai, ni, ci, z1, z2, z3, z4⟩ := s3 i hi
    exact ⟨Ai, ni, ci, z1, own_put z2 HD5.out rfl, z3, z4⟩
end Go.Proofs.Yteemdjamgbbjhaa.Wl

/-
  States held against one another.
-/
namespace Go.Proofs.Yteemdjamgbbjhaa.Wl
set_option maxRecDepth 100000
open Go.RowKit Go.Shelf Go.Proofs.Yteemdjamgbbjhaa.Wd Go.Proofs.Yteemdjamgbbjhaa.Dsk Go.Proofs.Yteemdjamgbbjhaa.Oct Go.Proofs.Yteemdjamgbbjhaa.Sum Go.Proofs.Yteemdjamgbbjhaa.Beq

theorem Frs.cell {W : World} {base cc : Nat} {A : Option Addr} {fs : List (List UInt8)} (h : Frs W base A cc fs) (i : Nat) (hi : i < fs.length) :
    ∃ g, A = some ⟨g, 0, none⟩ ∧ ∃ Ai ni ci, W.cell? ⟨g, i, none⟩ = some (.slice Ai ni ci) ∧ By W Ai ni ci (fs.getD i []) ∧ ni ≤ 40000 := by
  obtain ⟨xs, h1, h2, h3⟩ := h
  obtain ⟨Ai, ni, ci, s1, s2, s3, _⟩ := h3 i hi
  rcases h1 with ⟨hxl, hv | ⟨gx, cap, cur, hv, _, hg, q1, q2, q3, q4⟩⟩
  · exact absurd hv.2 (by omega)
  · cases hv
    refine ⟨gx, rfl, Ai, ni, ci, ?_, s2, s3⟩
    rw [cell_of_row W gx i cur _ (0, 0) hg]
    rw [← q4, List.getElem?_take_of_lt (by omega)] at s1
    simpa using s1
theorem Frs.cap {W : World} {base cc : Nat} {A : Option Addr} {fs : List (List UInt8)} (h : Frs W base A cc fs) : fs.length ≤ cc := by
  obtain ⟨xs, h1, _⟩ := h
  rcases h1 with ⟨hxl, hv | ⟨gx, cap, cur, hv, _, hg, q1, q2, q3, q4⟩⟩
  · omega
  · cases hv; exact q1
def sameS (b1 b2 : List UInt8) (fs1 fs2 : List (List UInt8)) : Bool := decide (b1 = b2) && decide (fs1 = fs2)
theorem lists_eq {fs1 fs2 : List (List UInt8)} (hl : fs1.length = fs2.length) (h : ∀ j, j < fs1.length → fs1.getD j [] = fs2.getD j []) : fs1 = fs2 := by
  refine List.ext_getElem hl fun j h1 h2 => ?_
  rw [getD_lt fs1 j [] h1, getD_lt fs2 j [] h2]
  exact h j h1
set_option maxHeartbeats 8000000 in
theorem same_any (lo1 lo2 : Nat) (v1 v2 : Value) (b1 b2 : List UInt8) (fs1 fs2 : List (List UInt8)) (w : World) (h1 : StV w lo1 v1 b1 fs1) (h2 : StV w lo2 v2 b2 fs2) (hn : fs1.length ≤ 100000) :
    Calls Try.prog 34 #[v1, v2] w fun e w' => e = .returned (.bool (sameS b1 b2 fs1 fs2)) ∧ Below w.heap.size w w' := by
  have mixed : Try.prog.follows .mixedOrders = true := by kernel_rfl
  obtain ⟨A1, n1, c1, L1, cl1, rfl, hb1, hm1, _, hf1⟩ := h1
  obtain ⟨A2, n2, c2, L2, cl2, rfl, hb2, hm2, _, hf2⟩ := h2
  obtain ⟨w1, hw1⟩ : ∃ w1, w1 = (w.alloc (.cells (scs A1 n1 c1 L1 fs1.length cl1).toArray 60)).alloc (.cells (scs A2 n2 c2 L2 fs2.length cl2).toArray 60) := ⟨_, rfl⟩
  have hr1 : Row w1 w.heap.size 60 (scs A1 n1 c1 L1 fs1.length cl1) := by rw [hw1]; exact (Row.new w _ _).alloc _
  have hr2 : Row w1 (w.heap.size + 1) 60 (scs A2 n2 c2 L2 fs2.length cl2) := by
    rw [hw1]
    have := Row.new (w.alloc (.cells (scs A1 n1 c1 L1 fs1.length cl1).toArray 60)) 60 (scs A2 n2 c2 L2 fs2.length cl2)
    rwa [World.size_alloc] at this
  have hbw : Below w.heap.size w w1 := by rw [hw1]; exact ((Below.refl _ _).alloc (Nat.le_refl _) _).alloc (by simp) _
  have HW1 := Lib.hid hw1
  have HR1 := Lib.hid hr1
  have HR2 := Lib.hid hr2
  have HBW := Lib.hid hbw
  have HY1 : Hid (By w1 A1 n1 c1 b1) := Lib.hid (own_below hb1 hbw)
  have HY2 : Hid (By w1 A2 n2 c2 b2) := Lib.hid (own_below hb2 hbw)
  have HF1 := Lib.hid (hf1.keep (fun k _ hlt => hbw.block k hlt))
  have HF2 := Lib.hid (hf2.keep (fun k _ hlt => hbw.block k hlt))
  have e1 : w1.cell? ⟨w.heap.size, 0, none⟩ = some (.slice A1 n1 c1) := hr1.cell 0
  have e2 : w1.cell? ⟨w.heap.size + 1, 0, none⟩ = some (.slice A2 n2 c2) := hr2.cell 0
  have e3 : w1.cell? ⟨w.heap.size, 1, none⟩ = some (.slice L1 fs1.length cl1) := hr1.cell 1
  have e4 : w1.cell? ⟨w.heap.size + 1, 1, none⟩ = some (.slice L2 fs2.length cl2) := hr2.cell 1
  have HEQ := Lib.hid (bytesEq_any A1 A2 n1 c1 n2 c2 b1 b2 w1.heap.size w1.heap.size w1 HY1.out.sl.len HY2.out.sl.len HY1.out.sl.bs HY2.out.sl.bs)
  clear hw1 hr1 hr2 hbw hb1 hb2 hf1 hf2
  unfold scs
  go_enter Try.func34, Try.ntmps34
  have hww : (w.alloc (.cells #[.slice A1 n1 c1, .slice L1 fs1.length cl1] 60)).alloc (.cells #[.slice A2 n2 c2, .slice L2 fs2.length cl2] 60) = w1 := HW1.out.symm
  go_wp2_with fail
  clear hww HW1
  refine HEQ.out.mono ?_
  rintro e wx ⟨rfl, rfl⟩
  by_cases hb : b1 = b2
  case neg =>
    have HS : Hid (sameS b1 b2 fs1 fs2 = false) := Lib.hid (by unfold sameS; simp [hb])
    rw [show decide (b1 = b2) = false by simp [hb]]
    clear hb
    go_wp2
    go_ret
    exact ⟨by rw [HS.out]; rfl, HBW.out⟩
  rw [show decide (b1 = b2) = true by simp [hb]]
  by_cases hl : fs1.length = fs2.length
  case neg =>
    have HS : Hid (sameS b1 b2 fs1 fs2 = false) := Lib.hid (by
      unfold sameS
      have : ¬ fs1 = fs2 := fun e => hl (by rw [e])
      simp [this])
    have hl2 : ¬ (fs1.length : Int) = (fs2.length : Int) := by omega
    clear hb hl
    go_wp2
    go_ret
    exact ⟨by rw [HS.out]; rfl, HBW.out⟩
  have HB := Lib.hid hb
  have HL := Lib.hid hl
  rw [← hl] at e4
  clear hb
  obtain ⟨n, hnn⟩ : ∃ n, fs1.length = n := ⟨_, rfl⟩
  have HN := Lib.hid hnn
  have hnl : n ≤ 100000 := by rw [← hnn]; exact hn
  rw [hnn] at e3 e4
  have HC1 := Lib.hid (fun i (hi : i < n) => HF1.out.cell i (by rw [HN.out]; exact hi))
  have HC2 := Lib.hid (fun i (hi : i < n) => HF2.out.cell i (by rw [← HL.out, HN.out]; exact hi))
  obtain ⟨p1, hp1⟩ : ∃ p1, w.heap.size = p1 := ⟨_, rfl⟩
  obtain ⟨p2, hp2⟩ : ∃ p2, w.heap.size + 1 = p2 := ⟨_, rfl⟩
  rw [hp1] at e1 e3
  rw [hp2] at e2 e4
  have E3 : Hid (∀ W, Below w1.heap.size w1 W → W.cell? ⟨p1, 1, none⟩ = some (.slice L1 n cl1)) := Lib.hid fun W hW => (hW.cell (p := ⟨p1, 1, none⟩) (by rw [← hp1]; exact HR1.out.lt)).trans e3
  have E4 : Hid (∀ W, Below w1.heap.size w1 W → W.cell? ⟨p2, 1, none⟩ = some (.slice L2 n cl2)) := Lib.hid fun W hW => (hW.cell (p := ⟨p2, 1, none⟩) (by rw [← hp2]; exact HR2.out.lt)).trans e4
  have HI0 : Hid (Below w1.heap.size w1 w1) := Lib.hid (Below.refl _ _)
  have hnn0 : (0 : Int) ≤ (n : Int) := by omega
  rw [hp2, hp1]
  clear hn hnn hl HR1 HR2 hp1 hp2 e1 e2 HF1 HF2
  go_wp2_with fail
  go_loopw [24] (fun t24 wr => ∃ k : Nat, k ≤ n ∧ t24 = .int .i64 (k : Int) ∧ Hid (∀ j, j < k → fs1.getD j [] = fs2.getD j []) ∧ Hid (Below w1.heap.size w1 wr)) (fun t24 _ => n - (intOf t24).toNat)
  case atStart => exact ⟨0, by omega, rfl, (show ∀ j, _ → _ from fun j hj => absurd hj (Nat.not_lt_zero _)), HI0⟩
  case round =>
    obtain ⟨k, hk, rfl, HE, HI⟩ := hrel
    clear HI0 e3 e4
    by_cases hlt : k < n
    case neg =>
      have h1 : ¬ (k : Int) < (n : Int) := by omega
      obtain rfl : k = n := by omega
      have HS : Hid (sameS b1 b2 fs1 fs2 = true) := Lib.hid (by
        unfold sameS
        have : fs1 = fs2 := lists_eq HL.out (fun j hj => HE.out j (by rw [← HN.out]; exact hj))
        simp [HB.out, this])
      have HBE := Lib.hid (HBW.out.trans (HI.out.mono HBW.out.size))
      go_wp2
      go_ret
      exact ⟨by rw [HS.out]; rfl, HBE.out⟩
    have h1 : (k : Int) < (n : Int) := by omega
    have h0 : (0 : Int) ≤ (k : Int) := by omega
    obtain ⟨g1, rfl, D1, m1, d1, q1, q2, q3⟩ := HC1.out k hlt
    obtain ⟨g2, rfl, D2, m2, d2, s1, s2, s3⟩ := HC2.out k hlt
    have HQ1 : Hid (∀ W, Below w1.heap.size w1 W → W.cell? ⟨g1, k, none⟩ = some (.slice D1 m1 d1)) := Lib.hid fun W hW => (hW.cell (p := ⟨g1, k, none⟩) (World.block_lt_of_cell? w1 _ q1)).trans q1
    have HS1 : Hid (∀ W, Below w1.heap.size w1 W → W.cell? ⟨g2, k, none⟩ = some (.slice D2 m2 d2)) := Lib.hid fun W hW => (hW.cell (p := ⟨g2, k, none⟩) (World.block_lt_of_cell? w1 _ s1)).trans s1
    have HEQ2 : Hid (∀ W, Below w1.heap.size w1 W → Calls Try.prog 28 #[.slice D1 m1 d1, .slice D2 m2 d2] W fun e w' => e = .returned (.bool (decide (fs1.getD k [] = fs2.getD k []))) ∧ W = w') := Lib.hid fun W hW =>
      bytesEq_any D1 D2 m1 d1 m2 d2 _ _ w1.heap.size w1.heap.size W q2.sl.len s2.sl.len (q2.sl.bs.below hW) (s2.sl.bs.below hW)
    obtain ⟨x1, hx1⟩ : ∃ x1, fs1.getD k [] = x1 := ⟨_, rfl⟩
    obtain ⟨x2, hx2⟩ : ∃ x2, fs2.getD k [] = x2 := ⟨_, rfl⟩
    rw [hx1, hx2] at HEQ2
    have HX1 := Lib.hid hx1
    have HX2 := Lib.hid hx2
    clear q1 q2 q3 s1 s2 s3 hx1 hx2
    go_upto_region 6 with fail
    refine wp_region_held_drew (S := fun w' => Below w1.heap.size w1 w') (by kernel_rfl) (HI.out.trans ((Below.refl _ _).drew.mono HI.out.size)) (fun hHeld => ?_)
    have S0 := Lib.hid hHeld
    clear hHeld HI
    generalize wr.drew = wj at S0 ⊢
    refine wpAnyH_take (i := 0) (oi := ⟨some 27, _, _, _, _, _⟩) (v := ?vz1) rfl (by kernel_rfl) (by kernel_rfl) (by kernel_rfl) (fun _ _ _ h => h) (Or.inl ⟨by rfl, ?yz1⟩) S0.out ?rz1
    case yz1 =>
      rintro w' hSw
      go_simp
      try with_reducible rfl
    try simp only [Act.put, List.setIfInBounds_toArray, List.set_cons_zero, List.set_cons_succ]
    refine wpAnyH_take (i := 1) (oi := ⟨some 28, _, _, _, _, _⟩) (v := ?vz2) rfl (by kernel_rfl) (by kernel_rfl) (by kernel_rfl) (fun _ _ _ h => h) (Or.inl ⟨by rfl, ?yz2⟩) S0.out ?rz2
    case yz2 =>
      rintro w' hSw
      have c3 := E3.out w' hSw
      go_simp
      try with_reducible rfl
    try simp only [Act.put, List.setIfInBounds_toArray, List.set_cons_zero, List.set_cons_succ]
    refine wpAnyH_take (i := 2) (oi := ⟨some 29, _, _, _, _, _⟩) (v := ?vz3) rfl (by kernel_rfl) (by kernel_rfl) (by kernel_rfl) (fun _ _ _ h => h) (Or.inl ⟨by rfl, ?yz3⟩) S0.out ?rz3
    case yz3 =>
      rintro w' hSw
      go_simp
      try with_reducible rfl
    try simp only [Act.put, List.setIfInBounds_toArray, List.set_cons_zero, List.set_cons_succ]
    refine wpAnyH_take (i := 3) (oi := ⟨some 30, _, _, _, _, _⟩) (v := ?vz4) rfl (by kernel_rfl) (by kernel_rfl) (by kernel_rfl) (fun _ _ _ h => h) (Or.inl ⟨by rfl, ?yz4⟩) S0.out ?rz4
    case yz4 =>
      rintro w' hSw
      go_simp
      try with_reducible rfl
    try simp only [Act.put, List.setIfInBounds_toArray, List.set_cons_zero, List.set_cons_succ]
    refine wpAnyH_take (i := 4) (oi := ⟨some 31, _, _, _, _, _⟩) (v := ?vz5) rfl (by kernel_rfl) (by kernel_rfl) (by kernel_rfl) (fun _ _ _ h => h) (Or.inl ⟨by rfl, ?yz5⟩) S0.out ?rz5
    case yz5 =>
      rintro w' hSw
      have c4 := HQ1.out w' hSw
      go_simp
      try with_reducible rfl
    try simp only [Act.put, List.setIfInBounds_toArray, List.set_cons_zero, List.set_cons_succ]
    refine wpAnyH_take (i := 5) (oi := ⟨some 32, _, _, _, _, _⟩) (v := ?vz6) rfl (by kernel_rfl) (by kernel_rfl) (by kernel_rfl) (fun _ _ _ h => h) (Or.inl ⟨by rfl, ?yz6⟩) S0.out ?rz6
    case yz6 =>
      rintro w' hSw
      go_simp
      try with_reducible rfl
    try simp only [Act.put, List.setIfInBounds_toArray, List.set_cons_zero, List.set_cons_succ]
    refine wpAnyH_take (i := 6) (oi := ⟨some 33, _, _, _, _, _⟩) (v := ?vz7) rfl (by kernel_rfl) (by kernel_rfl) (by kernel_rfl) (fun _ _ _ h => h) (Or.inl ⟨by rfl, ?yz7⟩) S0.out ?rz7
    case yz7 =>
      rintro w' hSw
      have c5 := E4.out w' hSw
      go_simp
      try with_reducible rfl
    try simp only [Act.put, List.setIfInBounds_toArray, List.set_cons_zero, List.set_cons_succ]
    refine wpAnyH_take (i := 7) (oi := ⟨some 34, _, _, _, _, _⟩) (v := ?vz8) rfl (by kernel_rfl) (by kernel_rfl) (by kernel_rfl) (fun _ _ _ h => h) (Or.inl ⟨by rfl, ?yz8⟩) S0.out ?rz8
    case yz8 =>
      rintro w' hSw
      go_simp
      try with_reducible rfl
    try simp only [Act.put, List.setIfInBounds_toArray, List.set_cons_zero, List.set_cons_succ]
    refine wpAnyH_take (i := 8) (oi := ⟨some 35, _, _, _, _, _⟩) (v := ?vz9) rfl (by kernel_rfl) (by kernel_rfl) (by kernel_rfl) (fun _ _ _ h => h) (Or.inl ⟨by rfl, ?yz9⟩) S0.out ?rz9
    case yz9 =>
      rintro w' hSw
      go_simp
      try with_reducible rfl
    try simp only [Act.put, List.setIfInBounds_toArray, List.set_cons_zero, List.set_cons_succ]
    refine wpAnyH_take (i := 9) (oi := ⟨some 36, _, _, _, _, _⟩) (v := ?vz10) rfl (by kernel_rfl) (by kernel_rfl) (by kernel_rfl) (fun _ _ _ h => h) (Or.inl ⟨by rfl, ?yz10⟩) S0.out ?rz10
    case yz10 =>
      rintro w' hSw
      have c6 := HS1.out w' hSw
      go_simp
      try with_reducible rfl
    try simp only [Act.put, List.setIfInBounds_toArray, List.set_cons_zero, List.set_cons_succ]
    refine wpAnyH_ready (rs := [10]) (by kernel_rfl) (by simp) ?_
    refine (AllReadyH.cons rfl (fun K hK => ?_) AllReadyH.nil)
    go_simp
    refine (HEQ2.out wj S0.out).mono ?_
    rintro e wx ⟨rfl, rfl⟩
    refine hK _ _ S0.out (fun _ => ?_)
    clear hK K
    try simp only [Act.put, List.setIfInBounds_toArray, List.set_cons_zero, List.set_cons_succ]
    refine wpAnyH_take (i := 11) (oi := ⟨some 38, _, _, _, _, _⟩) (v := ?vz12) rfl (by kernel_rfl) (by kernel_rfl) (by kernel_rfl) (fun _ _ _ h => h) (Or.inl ⟨by rfl, ?yz12⟩) S0.out ?rz12
    case yz12 =>
      rintro w' hSw
      go_simp
      try with_reducible rfl
    try simp only [Act.put, List.setIfInBounds_toArray, List.set_cons_zero, List.set_cons_succ]
    refine wpAnyH_done (by kernel_rfl) ?_ _

    by_cases heq : x1 = x2
    case neg =>
      rw [show decide (x1 = x2) = false by simp [heq]]
      have HS : Hid (sameS b1 b2 fs1 fs2 = false) := Lib.hid (by
        unfold sameS
        have : ¬ fs1 = fs2 := fun e => heq (by rw [← HX1.out, ← HX2.out, e])
        simp [this])
      have HBE := Lib.hid (HBW.out.trans (S0.out.mono HBW.out.size))
      clear heq
      go_wp2
      go_ret
      exact ⟨by rw [HS.out]; rfl, HBE.out⟩
    rw [show decide (x1 = x2) = true by simp [heq]]
    have HE2 : Hid (∀ j, j < k + 1 → fs1.getD j [] = fs2.getD j []) := (show ∀ j, _ → _ from fun j hj => by
      by_cases e : j = k
      · rw [e, HX1.out, HX2.out]; exact heq
      · exact HE.out j (by omega))
    clear heq
    go_wp2
    go_roundw
    case rel => exact ⟨k + 1, by omega, by go_num, HE2, S0⟩
    case measure => simp [intOf]; omega
end Go.Proofs.Yteemdjamgbbjhaa.Wl
