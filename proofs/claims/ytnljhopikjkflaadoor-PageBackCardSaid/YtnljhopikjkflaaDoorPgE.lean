/-
  A page is read out of bytes.
-/
import Derived.Test.YtnljhopikjkflaaDoorPgD
namespace Go.Proofs.YtnljhopikjkflaaDoor.Pg
set_option maxRecDepth 100000
open Go.RowKit Go.Proofs.YtnljhopikjkflaaDoor.Wd Go.Proofs.YtnljhopikjkflaaDoor.Oct Go.Proofs.YtnljhopikjkflaaDoor.Dsk Go.Proofs.YtnljhopikjkflaaDoor.Rec Go.Proofs.YtnljhopikjkflaaDoor.Sum Go.Proofs.YtnljhopikjkflaaDoor.Sm

theorem raw_own (g : Nat) (l : List UInt8) (at_ : Nat) (err n : Int) (w : World) (hR : Rdr w g l at_ err) (hl : l.length ≤ 140737488355328) :
    Calls Tryd.prog 42 #[.pointer (some ⟨g, 0, none⟩), .int .i64 n] w fun e w' => ∃ v, e = .returned v ∧ Own w' w.heap.size v (Oct.step l at_ err n).1 ∧ Rdr w' g l (Oct.step l at_ err n).2.1 (Oct.step l at_ err n).2.2 ∧ w.grownBy w' (some g) := by
  obtain ⟨i0, hi, hz0, hz1, hz2⟩ := info_parts info5
  have hlen : (Oct.step l at_ err n).1.length ≤ l.length := by
    unfold Oct.step
    split
    · simp
    · split
      · simp
      · split
        · simp
        · simp; omega
  have HC := take_any g l at_ err n w hR
  unfold Took at HC
  generalize Oct.step l at_ err n = t at HC hlen ⊢
  have H := Lib.hid HC
  clear HC
  go_enter Tryd.func42, Tryd.ntmps42
  go_wp2_with fail
  refine H.out.mono ?_
  rintro e w1 ⟨A, m, c, rfl, hm, hA, hb, hR1, hg⟩
  have hA' := Lib.hid hA
  have hm' : m ≤ 140737488355328 := by rw [← hm.out]; omega
  clear hA hlen
  go_wp2_with (at_builtin; refine wpList_append_bs rfl _ _ 23 rfl w1.heap.size 5 i0 (.int .u8 0) Tryd.underlying23 hi hz0 hz1 hz2 rfl (.slice none 0 0) 0 [] rfl (World.ownsRow_nil _ _ _ _) A m c t.1 rfl hm.out g hb hA'.out (by omega) (Nat.le_refl _) ?_; intro v w2 hown2 hg2)
  have hown3 : Own w2 w1.heap.size v t.1 := by
    unfold Own
    rw [hm.out]
    simpa using hown2
  have HO := Lib.hid hown3
  clear hown2 hown3
  go_ret
  have hbel : Below w1.heap.size w1 w2 := (Below.refl _ _).grown hg2 (Nat.le_refl _) (fun k hk => by cases hk)
  exact ⟨v, rfl, HO.out.mono hg.size, hR1.below hbel hR1.lt, grown_trans hg ⟨hbel.os, hbel.tape, hbel.output, hbel.size, fun k hk _ => hbel.block k hk⟩⟩

def sN (l : List UInt8) (q : Nat × Int) : Nat := num (Oct.step l q.1 q.2 1).1
def sq1 (l : List UInt8) (q : Nat × Int) : Nat × Int := (Oct.step l q.1 q.2 1).2
def sS (l : List UInt8) (q : Nat × Int) : List UInt8 := (Oct.step l (sq1 l q).1 (sq1 l q).2 (sN l q : Int)).1
def sq2 (l : List UInt8) (q : Nat × Int) : Nat × Int := (Oct.step l (sq1 l q).1 (sq1 l q).2 (sN l q : Int)).2
def sq3 (l : List UInt8) (q : Nat × Int) : Nat × Int := (Oct.step l (sq2 l q).1 (sq2 l q).2 (52 - (sN l q : Int))).2
def qs (l : List UInt8) : Nat → Nat × Int
  | 0 => (10, 0)
  | k + 1 => sq3 l (qs l k)
/-- the slots that are read -/
def rdS (l : List UInt8) (k : Nat) : List UInt8 := sS l (qs l k)
def rdNum (l : List UInt8) : Nat := num (l.take 2)
def rdLsn (l : List UInt8) : Nat := num ((l.drop 2).take 8)
theorem sN_lt (l : List UInt8) (q : Nat × Int) : sN l q < 256 := by
  have := step_num_lt l q.1 q.2 1
  simpa [sN] using this
theorem step_two {l : List UInt8} (h : l.length = 256) : Oct.step l 0 0 2 = (l.take 2, 2, 0) := by
  unfold Oct.step
  rw [if_neg (by simp), if_neg (by omega), if_neg (by omega)]
  rfl
theorem step_ten {l : List UInt8} (h : l.length = 256) : Oct.step l 2 0 8 = ((l.drop 2).take 8, 10, 0) := by
  unfold Oct.step
  rw [if_neg (by simp), if_neg (by omega), if_neg (by omega)]
  rfl
def zs : PS := ⟨fun _ => none, fun _ => 0, fun _ => 0⟩
def upd {α : Type} (f : Nat → α) (k : Nat) (x : α) : Nat → α := fun j => if j = k then x else f j
theorem upd_at {α : Type} (f : Nat → α) (k : Nat) (x : α) : upd f k x k = x := if_pos rfl
theorem upd_not {α : Type} (f : Nat → α) {k j : Nat} (x : α) (h : j ≠ k) : upd f k x j = f j := if_neg h
def PS.set (s : PS) (k : Nat) (A : Option Addr) (n c : Nat) : PS := ⟨upd s.A k A, upd s.n k n, upd s.c k c⟩
theorem pcs_set {num : Int} {lsn : Nat} {s : PS} {k : Nat} (hk : k < 4) (A : Option Addr) (n c : Nat) : (pcs num lsn s).set (2 + k) (.slice A n c) = pcs num lsn (s.set k A n c) := by
  match k, hk with
  | 0, _ => rfl
  | 1, _ => rfl
  | 2, _ => rfl
  | 3, _ => rfl
/-- the slots are bytes of one's own -/
def PO (w : World) (base : Nat) (sl : Nat → List UInt8) (s : PS) : Prop := ∀ j, j < 4 → Own w base (.slice (s.A j) (s.n j) (s.c j)) (sl j)
theorem PO.at_ {w : World} {base : Nat} {sl : Nat → List UInt8} {s : PS} (h : PO w base sl s) : PgAt w w.heap.size sl s := fun k hk => by
  obtain ⟨A, n, c, e, hs⟩ := (h k hk).sl
  cases e
  exact hs
theorem PO.mono {w : World} {base base' : Nat} {sl : Nat → List UInt8} {s : PS} (h : PO w base sl s) (hb : base' ≤ base) : PO w base' sl s := fun k hk => (h k hk).mono hb
theorem PO.nil (w : World) (base : Nat) : PO w base (fun _ => []) zs := fun _ _ => World.ownsRow_nil _ _ _ _
theorem own_ne {w : World} {base g : Nat} {v : Value} {l : List UInt8} {t : TypeId} {cs : List Value} (h : Own w base v l) (hr : Row w g t cs) (ht : t ≠ 5) : v.ownBlock = none ∨ v.ownBlock ≠ some g := by
  rcases h.2 with ⟨rfl, _⟩ | ⟨g', cap, cur, rfl, hb, hg, _⟩
  · exact .inl rfl
  · refine .inr fun e => ht ?_
    have e' : g' = g := Option.some.inj e
    subst e'
    have e2 := (show w.heap[g']? = _ from hr).symm.trans hg
    cases e2
    rfl
theorem Own.kept {w w' : World} {base : Nat} {v : Value} {l : List UInt8} {r : Option Nat} (h : Own w base v l) (hg : w.grownBy w' r) (hne : v.ownBlock = none ∨ v.ownBlock ≠ r) : Own w' base v l := World.ownsRow.kept h hg hne
theorem Own.below {w w' : World} {base : Nat} {v : Value} {l : List UInt8} (h : Own w base v l) (hb : Below w.heap.size w w') : Own w' base v l :=
  h.kept (r := none) ⟨hb.os, hb.tape, hb.output, hb.size, fun k hk _ => hb.block k hk⟩ (by cases v.ownBlock <;> simp)
theorem PO.below {w w' : World} {base : Nat} {sl : Nat → List UInt8} {s : PS} (h : PO w base sl s) (hb : Below w.heap.size w w') : PO w' base sl s := fun k hk => (h k hk).below hb
/-- a page that is read, under way -/
structure RdI (w : World) (g P : Nat) (l : List UInt8) (num : Int) (lsn : Nat) (q : Nat × Int) (S : Nat → List UInt8) (s : PS) (W : World) : Prop where
  r2 : Row W w.heap.size 26 (pcs 0 0 zs)
  r4 : Row W P 26 (pcs num lsn s)
  rd : Rdr W g l q.1 q.2
  own : PO W w.heap.size S s
  hb : Below w.heap.size w W
  gt : w.heap.size < g
  gP : g < P
section
variable {w W W' : World} {g P : Nat} {l : List UInt8} {num : Int} {lsn : Nat} {q q' : Nat × Int} {S : Nat → List UInt8} {s : PS}
theorem RdI.call (h : RdI w g P l num lsn q S s W) (hg : W.grownBy W' (some g)) (hr : Rdr W' g l q'.1 q'.2) : RdI w g P l num lsn q' S s W' := by
  have h1 := h.gt
  have h2 := h.gP
  refine ⟨h.r2.grown hg (fun e => by have := Option.some.inj e; omega), h.r4.grown hg (fun e => by have := Option.some.inj e; omega), hr, fun j hj => (h.own j hj).kept hg ?_, h.hb.grown hg h.hb.size (fun k hk => by have := Option.some.inj hk; omega), h1, h2⟩
  obtain ⟨_, _, _, hrow, _⟩ := h.rd
  exact own_ne (h.own j hj) hrow (by decide)
theorem RdI.put (h : RdI w g P l num lsn q S s W) {k : Nat} (hk : k < 4) {A : Option Addr} {n c : Nat} {x : List UInt8} (hx : Own W w.heap.size (.slice A n c) x) : RdI w g P l num lsn q (upd S k x) (s.set k A n c) (W.setCell ⟨P, 2 + k, none⟩ (.slice A n c)) := by
  have h1 := h.gt
  have h2 := h.gP
  have hgr := grown_store W P (2 + k) (.slice A n c)
  refine ⟨h.r2.far (p := ⟨P, 2 + k, none⟩) (by show w.heap.size ≠ P; omega) _, ?_, ?_, fun j hj => ?_, h.hb.setCell (p := ⟨P, 2 + k, none⟩) (by show w.heap.size ≤ P; omega) _, h1, h2⟩
  · have := h.r4.store (2 + k) (.slice A n c)
    rwa [pcs_set hk] at this
  · exact h.rd.keep fun j hj => Below.heap_setCell W ⟨P, 2 + k, none⟩ _ j (by show j ≠ P; omega)
  · by_cases hjk : j = k
    · subst hjk
      simp only [PS.set, upd_at]
      exact hx.kept hgr (own_ne hx h.r4 (by decide))
    · simp only [PS.set, upd_not _ _ hjk]
      exact (h.own j hj).kept hgr (own_ne (h.own j hj) h.r4 (by decide))
end

set_option maxHeartbeats 2000000 in
theorem pread_any (A : Option Addr) (c : Nat) (l : List UInt8) (w : World) (hl : l.length = 256) (hb : Bs w w.heap.size A l) (hA : A = none → c = 0) :
    Calls Tryd.prog 19 #[.slice A 256 c] w fun e w' => ∃ s, e = .returned (.agg (pcs (rdNum l : Int) (rdLsn l) s).toArray) ∧ PO w' w.heap.size (rdS l) s ∧ Below w.heap.size w w' := by
  have HL := Lib.hid hl
  have HBS := Lib.hid hb
  have HA := Lib.hid hA
  have H2 := Lib.hid (step_two hl)
  have H10 := Lib.hid (step_ten hl)
  clear hl hb hA
  go_enter Tryd.func19, Tryd.ntmps19
  go_upto_region 1 with fail
  have HX := Lib.hid (boxed w 0 0 zs)
  rw [show pcs 0 0 zs = [.int .i64 0, .int .u64 0, .slice none 0 0, .slice none 0 0, .slice none 0 0, .slice none 0 0] from rfl] at HX
  have hbs1 := Lib.hid (HBS.out.below HX.out.hb)
  generalize w.alloc (.cells #[.int .i64 0, .int .u64 0, .slice none 0 0, .slice none 0 0, .slice none 0 0, .slice none 0 0] 26) = w1 at HX hbs1 ⊢
  go_wp2_with fail
  refine (read_any A l 256 c w1 HL.out (by omega) w.heap.size hbs1.out HA.out).mono ?_
  rintro e w2 ⟨g, rfl, hg, hrd, hb2⟩
  have HX2 := Lib.hid (HX.out.then hb2)
  have HRD := Lib.hid hrd
  have hgt : w.heap.size < g := by have := HX.out.sz; omega
  clear hb2 hrd hbs1 HX
  go_wp2_with fail
  refine (u16_any g l 0 0 w2 HRD.out).mono ?_
  rintro e w3 ⟨rfl, hrd, hg3⟩
  rw [H2.out] at hrd ⊢
  have HRD3 := Lib.hid hrd
  have HR3 := Lib.hid (HX2.out.row.grown hg3 (fun e => by have := Option.some.inj e; omega))
  have HB3 := Lib.hid (HX2.out.hb.grown hg3 HX2.out.hb.size (fun k hk => by have := Option.some.inj hk; omega))
  clear hrd hg3 HX2 HRD
  have hx : ((num (l.take 2) : Nat) : Int) < 65536 := by
    have := num_lt (l.take 2)
    rw [List.length_take, HL.out, show min 2 256 = 2 from rfl] at this
    omega
  go_wp2_with fail
  refine (u64_any g l 2 0 w3 HRD3.out).mono ?_
  rintro e w4 ⟨rfl, hrd, hg4⟩
  rw [H10.out] at hrd ⊢
  have HRD4 := Lib.hid hrd
  have HR4 := Lib.hid (HR3.out.grown hg4 (fun e => by have := Option.some.inj e; omega))
  have HB4 := Lib.hid (HB3.out.grown hg4 HB3.out.size (fun k hk => by have := Option.some.inj hk; omega))
  clear hrd hg4 HR3 HRD3 HB3
  go_upto_region 3 with fail
  have HI0 : Hid (RdI w g w4.heap.size l (rdNum l : Int) (rdLsn l) (10, 0) (fun _ => []) zs (w4.alloc (.cells (pcs (rdNum l : Int) (rdLsn l) zs).toArray 26))) :=
    ⟨HR4.out.alloc _, Row.new w4 _ _, HRD4.out.below ((Below.refl _ _).alloc (Nat.le_refl _) _) HRD4.out.lt, PO.nil _ _, HB4.out.alloc HB4.out.size _, hgt, HRD4.out.lt⟩
  rw [show pcs (rdNum l : Int) (rdLsn l) zs = [.int .i64 (num (l.take 2) : Int), .int .u64 (num ((l.drop 2).take 8) : Int), .slice none 0 0, .slice none 0 0, .slice none 0 0, .slice none 0 0] from rfl] at HI0
  generalize w4.heap.size = P at HI0 ⊢
  generalize w4.alloc (.cells #[.int .i64 (num (l.take 2) : Int), .int .u64 (num ((l.drop 2).take 8) : Int), .slice none 0 0, .slice none 0 0, .slice none 0 0, .slice none 0 0] 26) = w5 at HI0 ⊢
  clear H2 H10 HRD4 HR4 HB4 hx hg hgt HBS HA
  go_wp2_with fail
  go_loopw [15] (fun t15 wr => ∃ k : Nat, k ≤ 4 ∧ t15 = .int .i64 (k : Int) ∧ Hid (∃ (S : Nat → List UInt8) (s : PS), (∀ j, j < k → S j = rdS l j) ∧ RdI w g P l (rdNum l : Int) (rdLsn l) (qs l k) S s wr)) (fun t15 _ => 4 - (intOf t15).toNat)
  case atStart => exact ⟨0, by omega, rfl, ⟨fun _ => [], zs, (fun j h => by omega), HI0.out⟩⟩
  case round =>
    obtain ⟨k, hk, rfl, HE⟩ := hrel
    clear HI0
    obtain ⟨S, s, hS, hI⟩ := HE.out
    have HS := Lib.hid hS
    have HI := Lib.hid hI
    clear hS hI HE
    by_cases hlt : k < 4
    · have h1 : (k : Int) < 4 := by omega
      have h0 : 0 ≤ (k : Int) := by omega
      have hsn := sN_lt l (qs l k)
      have HSN := Lib.hid (show num (Oct.step l (qs l k).1 (qs l k).2 1).1 = sN l (qs l k) from rfl)
      have HQ1 := Lib.hid (show (Oct.step l (qs l k).1 (qs l k).2 1).2 = sq1 l (qs l k) from rfl)
      have HSS := Lib.hid (show (Oct.step l (sq1 l (qs l k)).1 (sq1 l (qs l k)).2 (sN l (qs l k) : Int)).1 = rdS l k from rfl)
      have HQ2 := Lib.hid (show (Oct.step l (sq1 l (qs l k)).1 (sq1 l (qs l k)).2 (sN l (qs l k) : Int)).2 = sq2 l (qs l k) from rfl)
      have HQ3 := Lib.hid (show (Oct.step l (sq2 l (qs l k)).1 (sq2 l (qs l k)).2 (52 - (sN l (qs l k) : Int))).2 = qs l (k + 1) from rfl)
      generalize sN l (qs l k) = n at hsn HSN HSS HQ2 HQ3
      generalize sq1 l (qs l k) = p1 at HQ1 HSS HQ2
      generalize sq2 l (qs l k) = p2 at HQ2 HQ3
      have hn256 : (n : Int) < 256 := by omega
      go_wp2_with fail
      refine (u8_any g l _ _ wr HI.out.rd).mono ?_
      rintro e w6 ⟨rfl, hrd, hg6⟩
      rw [HQ1.out] at hrd
      rw [HSN.out]
      have HI6 := Lib.hid (HI.out.call (q' := p1) hg6 hrd)
      clear hrd hg6 HI
      go_wp2_with fail
      refine (raw_own g l p1.1 p1.2 (n : Int) w6 HI6.out.rd (by have := HL.out; omega)).mono ?_
      rintro e w7 ⟨v, rfl, hov, hrd, hg7⟩
      rw [HQ2.out] at hrd
      rw [HSS.out] at hov
      have HI7 := Lib.hid (HI6.out.call (q' := p2) hg7 hrd)
      have HOV := Lib.hid (hov.mono HI6.out.hb.size)
      clear hrd hg7 hov HI6
      obtain ⟨A7, n7, c7, rfl, _⟩ := HOV.out.open
      have hcl : w7.cell? ⟨P, 2 + k, none⟩ = some (.slice (s.A k) (s.n k) (s.c k)) := pcs_cell HI7.out.r4 k hlt
      have hfr := HI7.out.r4.frozen (2 + k)
      go_upto_region 8 with fail
      have HI8 := Lib.hid (HI7.out.put hlt HOV.out)
      generalize w7.setCell ⟨P, 2 + k, none⟩ (.slice A7 n7 c7) = w8 at HI8 ⊢
      clear hcl hfr HI7 HOV
      go_wp2_with fail
      refine (raw_own g l p2.1 p2.2 (52 - (n : Int)) w8 HI8.out.rd (by have := HL.out; omega)).mono ?_
      rintro e w9 ⟨v9, rfl, _, hrd, hg9⟩
      rw [HQ3.out] at hrd
      have HI9 := Lib.hid (HI8.out.call (q' := qs l (k + 1)) hg9 hrd)
      have HE9 : Hid (∃ (S : Nat → List UInt8) (s : PS), (∀ j, j < k + 1 → S j = rdS l j) ∧ RdI w g P l (rdNum l : Int) (rdLsn l) (qs l (k + 1)) S s w9) := by
        refine ⟨_, _, fun j hj => ?_, HI9.out⟩
        by_cases hjk : j = k
        · rw [hjk, upd_at]
        · rw [upd_not _ _ hjk]
          exact HS.out j (by omega)
      clear hrd hg9 HI8 HI9 HSN HQ1 HSS HQ2 HQ3
      go_wp2
      go_roundw
      case rel => exact ⟨k + 1, by omega, by go_num, HE9⟩
      case measure => simp [intOf]; omega
    · obtain rfl : k = 4 := by omega
      have ha0 : wr.cell? ⟨P, 0, none⟩ = some (.int .i64 (rdNum l : Int)) := HI.out.r4.cell 0
      have ha1 : wr.cell? ⟨P, 1, none⟩ = some (.int .u64 (rdLsn l : Int)) := HI.out.r4.cell 1
      have ha2 : wr.cell? ⟨P, 2, none⟩ = some (.slice (s.A 0) (s.n 0) (s.c 0)) := HI.out.r4.cell 2
      have ha3 : wr.cell? ⟨P, 3, none⟩ = some (.slice (s.A 1) (s.n 1) (s.c 1)) := HI.out.r4.cell 3
      have ha4 : wr.cell? ⟨P, 4, none⟩ = some (.slice (s.A 2) (s.n 2) (s.c 2)) := HI.out.r4.cell 4
      have ha5 : wr.cell? ⟨P, 5, none⟩ = some (.slice (s.A 3) (s.n 3) (s.c 3)) := HI.out.r4.cell 5
      have HONE : Hid (∀ v ∈ pcs (rdNum l : Int) (rdLsn l) s, v.oneCell' = true) := pcs_one
      have HPI : Hid ((Tryd.prog.info? 26).map (·.size) = some (pcs (rdNum l : Int) (rdLsn l) s).length) := page_info
      have HLE : Hid ((pcs (rdNum l : Int) (rdLsn l) s).length = (pcs 0 0 zs).length) := (rfl : _ = _)
      go_wp2_with ((with_reducible refine wpList_store_whole (op := ⟨none, _, _, _, _, _⟩) ?_ 26 (.tmp 2) (.tmp 32) ?_ w.heap.size (pcs (rdNum l : Int) (rdLsn l) s) ?_ ?_ 26 (pcs 0 0 zs) HI.out.r2 HLE.out HONE.out HPI.out ?_))
      all_goals try (first | rfl | (simp; done))
      intro w8 hr8 hg8
      have HRES := Lib.hid (run_loadVar_mid (P := Tryd.prog) w8 w.heap.size 0 26 (pcs (rdNum l : Int) (rdLsn l) s) _ (Row.all hr8) Tryd.underlying26 rfl HPI.out)
      have HB8 := Lib.hid (HI.out.hb.grown hg8 HI.out.hb.size (fun k hk => by have := Option.some.inj hk; omega))
      have HPO : Hid (PO w8 w.heap.size (rdS l) s) := fun j hj => by
        rw [← HS.out j hj]
        exact (HI.out.own j hj).kept hg8 (own_ne (HI.out.own j hj) HI.out.r2 (by decide))
      clear hr8 hg8
      go_wp2
      exact bodyPost_ret (v := .agg (pcs (rdNum l : Int) (rdLsn l) s).toArray) (results_cell (p := 2) (ty := 26) rfl _ _ ⟨w.heap.size, 0, none⟩ _ rfl HRES.out) rfl ⟨s, rfl, HPO.out, HB8.out⟩
end Go.Proofs.YtnljhopikjkflaaDoor.Pg
