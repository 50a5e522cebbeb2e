/-
  Part 9 of the contracts that the law rests on.
-/
import Derived.LoopTactic
import Derived.Lib.SlBytesConst
import Derived.Deep.Cut
import Derived.Lib.AppendZeros
import Derived.Lib.AppendZerosOnto
import Derived.Deep.RegionHeld
import Derived.Test.YteemdjamgbbjhaaWf2
import Derived.Test.YteemdjamgbbjhaaWf8
/-
  What is told stays, while the disk is written, cut and opened.
-/
namespace Go.Proofs.Yteemdjamgbbjhaa.Wl
set_option maxRecDepth 100000
open Go.RowKit Go.Shelf Go.Proofs.Yteemdjamgbbjhaa.Wd Go.Proofs.Yteemdjamgbbjhaa.Dsk Go.Proofs.Yteemdjamgbbjhaa.Oct Go.Proofs.Yteemdjamgbbjhaa.Sum Go.Proofs.Yteemdjamgbbjhaa.Beq

/-- the blocks of N are as they were in w0, and none is one of F -/
structure NF (N : Nat → Prop) (w0 : World) (F : Nat → Prop) (W : World) : Prop where
  same : ∀ k, N k → W.heap[k]? = w0.heap[k]?
  lt : ∀ k, N k → k < W.heap.size
  no : ∀ k, N k → ¬ F k
theorem NF.below {N : Nat → Prop} {w0 : World} {F : Nat → Prop} {W W' : World} (h : NF N w0 F W) (hb : Below W.heap.size W W') : NF N w0 F W' :=
  ⟨fun k hk => (hb.block k (h.lt k hk)).trans (h.same k hk), fun k hk => Nat.lt_of_lt_of_le (h.lt k hk) hb.size, h.no⟩
theorem NF.mono {N : Nat → Prop} {w0 : World} {F F2 : Nat → Prop} {W : World} (h : NF N w0 F W) (hs : ∀ k, F2 k → F k) : NF N w0 F2 W := ⟨h.same, h.lt, fun k hk hf => h.no k hk (hs k hf)⟩
theorem NF.off {N : Nat → Prop} {w0 : World} {F F' F2 : Nat → Prop} {W W' : World} (h : NF N w0 F W) (ho : Off F W W') (hx : Ext F F' W W') (hs : ∀ k, F2 k → F' k) : NF N w0 F2 W' :=
  ⟨fun k hk => (ho.block k (h.lt k hk) (h.no k hk)).trans (h.same k hk), fun k hk => Nat.lt_of_lt_of_le (h.lt k hk) ho.size, fun k hk hf => by
    rcases hx k (hs k hf) with hf | hf
    · exact h.no k hk hf
    · have := h.lt k hk; omega⟩
theorem NF.off_left {N : Nat → Prop} {w0 : World} {F F' G : Nat → Prop} {W W' : World} (h : NF N w0 (fun k => F k ∨ G k) W) (ho : Off (fun k => F k ∨ G k) W W') (hx : Ext F F' W W') : NF N w0 F' W' :=
  ⟨fun k hk => (ho.block k (h.lt k hk) (h.no k hk)).trans (h.same k hk), fun k hk => Nat.lt_of_lt_of_le (h.lt k hk) ho.size, fun k hk hf => by
    rcases hx k hf with hf | hf
    · exact h.no k hk (.inl hf)
    · have := h.lt k hk; omega⟩
theorem NF.with_new {N : Nat → Prop} {w0 : World} {F G : Nat → Prop} {W : World} (h : NF N w0 F W) (hg : ∀ k, N k → ¬ G k) : NF N w0 (fun k => F k ∨ G k) W := ⟨h.same, h.lt, fun k hk hf => hf.elim (h.no k hk) (hg k hk)⟩
theorem NF.row {N : Nat → Prop} {w0 : World} {F : Nat → Prop} {W : World} (h : NF N w0 F W) {b : Nat} {t : TypeId} {cs : List Value} (hb : N b) (hr : Row w0 b t cs) : Row W b t cs := (h.same b hb).trans hr
theorem NF.stn {N : Nat → Prop} {w0 : World} {F : Nat → Prop} {W : World} (h : NF N w0 F W) {v : Value} {b : List UInt8} {fs : List (List UInt8)} (hs : StN w0 N v b fs) : StN W N v b fs := hs.keep (fun k hk _ => h.same k hk)
/-- as CutK, and what is in N stays -/
def CutN (N : Nat → Prop) (w0 : World) (w1 : World) (dg area : Nat) (W : World) (v : Int) (t : Nat) (fs : List (List UInt8)) (t2 : Nat) (fs2 : List (List UInt8)) : Prop :=
  ∃ d6 F6, Dk W F6 dg d6 ∧ (∀ k, F6 k → w1.heap.size ≤ k) ∧ NF N w0 F6 W ∧ d6.pend.length ≤ 900000 ∧ ∀ keep, CalmS (d6.crashM keep) (2 + 2 * area) ∧ (d6.crashM keep).pend = [] ∧
    ((v ≠ 0 ∧ Shows (d6.crashM keep).sec t area fs) ∨ ((v = 0 ∨ v = 9) ∧ Shows (d6.crashM keep).sec t2 area fs2))
theorem append_cutn {N : Nat → Prop} {w0 : World} {w1 : World} {dg g area t : Nat} {fs : List (List UInt8)} {W : World} {F G : Nat → Prop} {d : DM} {m0 : Int} (hd : Dk W F dg (d.armM m0).1) (hlog : Log W G g dg area t fs false) (hF : ∀ k, F k → w1.heap.size ≤ k) (hG : ∀ k, G k → w1.heap.size ≤ k) (hl : Lies d t area fs) (hlen : fs.length ≤ 42) (hb : Below w1.heap.size w1 W) (hnf : NF N w0 (fun k => F k ∨ G k) W)
    (A2 : Option Addr) (m c2 : Nat) (b : List UInt8) (hby : By W A2 m c2 b) (hbl : b.length = m) (hm : m ≤ 400) :
    Calls Try.prog 16 #[.pointer (some ⟨g, 0, none⟩), .slice A2 m c2] W fun e W' => ∃ v, e = .returned (.int .i64 v) ∧ CutN N w0 w1 dg area W' v t fs t (fs ++ [b]) ∧ Below w1.heap.size w1 W' := by
  have hus := hl.shows.used
  have h4 := hl.shows.a4
  have ham := hl.shows.am
  have hpd : (d.armM m0).1.pend = [] := by
    unfold DM.armM
    split <;> exact hl.pend
  by_cases hroom : sects m ≤ area - usedM fs
  · refine (append_ok g dg area t fs A2 m c2 b _ F G W hlog hd hby.sl (by omega) (by omega) hl.shows.tm hus hroom (by omega) (by rw [hpd]; exact Nat.zero_le _)).mono ?_
    rintro e W' ⟨rfl, F6, G6, hd6, hx6, hy6, ho6, hl6⟩
    obtain ⟨q1, q2⟩ := append_told hl m0 (b := b) (by omega) (by rw [hbl]; exact hroom) _ rfl
    refine ⟨_, rfl, ⟨_, F6, hd6, ext_new hb.size hx6 hF, hnf.off_left ho6 hx6, ?_, fun keep => ?_⟩, below_off hb ho6 (fun k hk => hk.elim (hF k) (hG k))⟩
    · have h1 := lay_pend (pairsM t fs.length b) ((2 + t % 2 * area + usedM fs : Nat) : Int) (d.armM m0).1
      have h2 : (pairsM t fs.length b).length = sects b.length := by simp [pairsM]
      rw [hpd, h2] at h1
      have h3 := sects_most b.length (by omega)
      simp only [List.length_nil] at h1
      omega
    · obtain ⟨c1, c2, c3⟩ := q2 keep
      refine ⟨c1, c2, ?_⟩
      rcases c3 with ⟨e9, c3⟩ | c3
      · exact .inl ⟨by rw [e9]; decide, c3⟩
      · exact .inr ⟨q1, c3⟩
  · refine (append_full g dg area t fs A2 m c2 G W hlog (by omega) (by omega) hus (by omega)).mono ?_
    rintro e W' ⟨rfl, hb6⟩
    refine ⟨_, rfl, ⟨_, F, hd.below hb6, hF, (hnf.below hb6).mono (fun _ h => .inl h), by rw [hpd]; exact Nat.zero_le _, fun keep => ?_⟩, hb.trans (hb6.mono hb.size)⟩
    obtain ⟨c1, c2, c3⟩ := crash_lies hl m0 keep _ rfl
    exact ⟨c1, c2, .inl ⟨by decide, c3⟩⟩
theorem check_cutn {N : Nat → Prop} {w0 : World} {w1 : World} {dg g area t : Nat} {fs : List (List UInt8)} {W : World} {F G : Nat → Prop} {d : DM} {m0 : Int} (hd : Dk W F dg (d.armM m0).1) (hlog : Log W G g dg area t fs false) (hF : ∀ k, F k → w1.heap.size ≤ k) (hG : ∀ k, G k → w1.heap.size ≤ k) (hl : Lies d t area fs) (ht : t + 1 < 4294967295) (hb : Below w1.heap.size w1 W) (hnf : NF N w0 (fun k => F k ∨ G k) W)
    (A2 : Option Addr) (m c2 : Nat) (b : List UInt8) (hby : By W A2 m c2 b) (hbl : b.length = m) (hm : m ≤ 400) :
    Calls Try.prog 17 #[.pointer (some ⟨g, 0, none⟩), .slice A2 m c2] W fun e W' => ∃ v, e = .returned (.int .i64 v) ∧ CutN N w0 w1 dg area W' v t fs (t + 1) [b] ∧ Below w1.heap.size w1 W' := by
  have h4 := hl.shows.a4
  have ham := hl.shows.am
  have hpd : (d.armM m0).1.pend = [] := by
    unfold DM.armM
    split <;> exact hl.pend
  by_cases hroom : sects m ≤ area
  · refine (check_ok g dg area t fs A2 m c2 b _ F G W hlog hd hby.sl (by omega) (by omega) (by omega) hroom (by rw [hpd]; exact Nat.zero_le _)).mono ?_
    rintro e W' ⟨rfl, F6, G6, hd6, hx6, hy6, ho6, hl6⟩
    obtain ⟨q1, q2⟩ := begin_told (b := b) hl (by omega) (by omega) (by rw [hbl]; exact hroom) m0 _ rfl
    refine ⟨_, rfl, ⟨_, F6, hd6, ext_new hb.size hx6 hF, hnf.off_left ho6 hx6, ?_, fun keep => ?_⟩, below_off hb ho6 (fun k hk => hk.elim (hF k) (hG k))⟩
    · have h1 := begin_pend (t + 1) area b (d.armM m0).1
      rw [hpd] at h1
      have h3 := sects_most b.length (by omega)
      simp only [List.length_nil] at h1
      omega
    · obtain ⟨c1, c2, c3⟩ := q2 keep
      refine ⟨c1, c2, ?_⟩
      rcases c3 with ⟨e9, c3⟩ | c3
      · exact .inl ⟨by rw [e9]; decide, c3⟩
      · exact .inr ⟨q1, c3⟩
  · refine (check_full g dg area t fs A2 m c2 G W hlog (by omega) (by omega)).mono ?_
    rintro e W' ⟨rfl, hb6⟩
    refine ⟨_, rfl, ⟨_, F, hd.below hb6, hF, (hnf.below hb6).mono (fun _ h => .inl h), by rw [hpd]; exact Nat.zero_le _, fun keep => ?_⟩, hb.trans (hb6.mono hb.size)⟩
    obtain ⟨c1, c2, c3⟩ := crash_lies hl m0 keep _ rfl
    exact ⟨c1, c2, .inl ⟨by decide, c3⟩⟩
/-- a disk on which nothing fails, and a log on it -/
def OKn (N : Nat → Prop) (w0 : World) (w1 : World) (dg area t : Nat) (fs : List (List UInt8)) (wr : World) : Prop :=
  ∃ F d, Dk wr F dg d ∧ CalmS d (2 + 2 * area) ∧ d.pend = [] ∧ Shows d.sec t area fs ∧ (∀ k, F k → w1.heap.size ≤ k) ∧ Below w1.heap.size w1 wr ∧ NF N w0 F wr
theorem OKn.below {N : Nat → Prop} {w0 w1 wr wx : World} {dg area t : Nat} {fs : List (List UInt8)} (h : OKn N w0 w1 dg area t fs wr) (hb : Below wr.heap.size wr wx) : OKn N w0 w1 dg area t fs wx := by
  obtain ⟨F, d, h1, h2, h3, h4, h5, h6, h7⟩ := h
  exact ⟨F, d, h1.below hb, h2, h3, h4, h5, h6.trans (hb.mono h6.size), h7.below hb⟩
/-- a log that was opened -/
def OpenedN (N : Nat → Prop) (w0 : World) (w1 : World) (dg area t : Nat) (fs : List (List UInt8)) (p : Option Addr) (W : World) : Prop :=
  ∃ g F G d, p = some ⟨g, 0, none⟩ ∧ Dk W F dg d ∧ Log W G g dg area t fs false ∧ CalmS d (2 + 2 * area) ∧ d.pend = [] ∧ Shows d.sec t area fs ∧ Clean d.sec t area fs ∧ (∀ k, F k → w1.heap.size ≤ k) ∧ (∀ k, G k → w1.heap.size ≤ k) ∧ Below w1.heap.size w1 W ∧ NF N w0 F W
theorem open_kcn {N : Nat → Prop} {w0 w1 : World} {dg area t : Nat} {fs : List (List UInt8)} {W : World} (h : OKn N w0 w1 dg area t fs W) :
    Calls Try.prog 20 #[.pointer (some ⟨dg, 0, none⟩)] W fun e W' => ∃ p, e = .returned (.tuple #[.pointer p, .int .i64 0]) ∧ OpenedN N w0 w1 dg area t fs p W' := by
  obtain ⟨F, d, hd, hc, hp, hsh, hF, hb, hnf⟩ := h
  obtain ⟨d8, he8, hcs8, hp8, hsh8, hcl8⟩ := open_clean hc hp hsh
  refine (open_any dg d F W hd (by rw [hp]; exact Nat.zero_le _)).mono ?_
  intro e W' hop
  rw [he8] at hop
  obtain ⟨p, F8, rfl, hd8, hx8, ho8, _, hg8⟩ := hop
  obtain ⟨g8, rfl, hl8, _⟩ := hg8 rfl
  exact ⟨_, rfl, g8, F8, _, d8, rfl, hd8, hl8, hcs8, hp8, hsh8, hcl8, ext_new hb.size hx8 hF, fun k hk => Nat.le_trans hb.size hk, below_off hb ho8 hF, hnf.off ho8 hx8 (fun _ h => h)⟩

set_option maxHeartbeats 8000000 in
theorem opened_n {N : Nat → Prop} {w0 : World} {w1 : World} {dg area t : Nat} {fs : List (List UInt8)} (w : World) (hst : OKn N w0 w1 dg area t fs w) (os : List OM) (A : Option Addr) (n c : Nat) (hn : os.length = n) (hm : n ≤ 9223372036854775807) (hO : Opl w1 w1.heap.size A os) (hok : ∀ o ∈ os, OpOk w1 o) :
    Calls Try.prog 38 #[.pointer (some ⟨dg, 0, none⟩), .slice A n c] w fun e w' => ∃ p, e = .returned (.pointer p) ∧ OpenedN N w0 w1 dg area t fs p w' := by
  have HN := Lib.hid hn
  have HO := Lib.hid hO
  have HOK := Lib.hid hok
  have HT0 := Lib.hid hst
  have HOP : Hid (∀ W, OKn N w0 w1 dg area t fs W → _) := Lib.hid fun W hW => open_kcn hW
  clear hn hO hok hst
  go_enter Try.func38, Try.ntmps38
  go_wp2_with fail
  go_loopw [13] (fun i wr => ∃ k : Nat, k ≤ n ∧ i = .int .i64 (k : Int) ∧ Hid (OKn N w0 w1 dg area t fs wr)) (fun i _ => n - (intOf i).toNat)
  case atStart => exact ⟨0, by omega, rfl, HT0⟩
  case round =>
    clear HT0
    obtain ⟨k, hk, rfl, HT⟩ := hrel
    by_cases hlt : k < n
    case neg =>
      have h1 : ¬ (k : Int) < (n : Int) := by omega
      obtain rfl : k = n := by omega
      go_wp2_with fail
      refine (HOP.out _ HT.out).mono ?_
      rintro e W9 ⟨p, rfl, hp⟩
      have HP := Lib.hid hp
      clear hp HT
      go_wp2
      go_ret
      exact ⟨_, rfl, HP.out⟩
    have h1 : (k : Int) < (n : Int) := by omega
    obtain ⟨x, hx⟩ : ∃ x, os[k]? = some x := ⟨_, List.getElem?_eq_getElem (by rw [HN.out]; exact hlt)⟩
    obtain ⟨b, o, rfl, hblt, hc⟩ := HO.out (by rw [HN.out]; omega)
    have HX := Lib.hid (HOK.out x (List.mem_of_getElem? hx))
    obtain ⟨kc, ac, xc, Ac, nc, cc, lc⟩ := x
    obtain ⟨F, d, hd, hcs, hpe, hsh, hF, hb, hnf⟩ := HT.out
    have hcl := fun j v hj => (hb.cell (p := ⟨b, o + k * 4 + j, none⟩) hblt).trans (hc k _ hx j v hj)
    have c0 : wr.cell? ⟨b, o + k * 4, none⟩ = some (.int .i64 kc) := hcl 0 _ rfl
    have c1 : wr.cell? ⟨b, o + k * 4 + 1, none⟩ = some (.int .i64 ac) := hcl 1 _ rfl
    have c2 : wr.cell? ⟨b, o + k * 4 + 2, none⟩ = some (.int .u8 (xc.toNat : Int)) := hcl 2 _ rfl
    have c3 : wr.cell? ⟨b, o + k * 4 + 3, none⟩ = some (.slice Ac nc cc) := hcl 3 _ rfl
    clear hcl hx hc
    have HBA : Hid (Below wr.heap.size wr (wr.alloc (.cells #[.int .i64 kc, .int .i64 ac, .int .u8 (xc.toNat : Int), .slice Ac nc cc] 55))) := Lib.hid ((Below.refl _ _).alloc (Nat.le_refl _) _)
    by_cases hk4 : k = 4
    · have hk5 : (k : Int) = 4 := by omega
      have HT5 := Lib.hid (HT.out.below HBA.out)
      subst hk4
      clear hd hcs hpe hsh hF hb hnf HX HT HBA
      go_wp2_with fail
      refine (HOP.out _ HT5.out).mono ?_
      rintro e W9 ⟨p, rfl, hp⟩
      have HP := Lib.hid hp
      clear hp HT5
      go_wp2
      go_ret
      exact ⟨_, rfl, HP.out⟩
    have hk5 : ¬ (k : Int) = 4 := by omega
    have RY := Lib.hid (Row.new wr 55 [.int .i64 kc, .int .i64 ac, .int .u8 (xc.toNat : Int), .slice Ac nc cc])
    have hFl : ∀ k, F k → k < wr.heap.size := hd.1.2
    have HD := Lib.hid (hd.below HBA.out)
    have HB := Lib.hid (hb.trans (HBA.out.mono hb.size))
    have HNF := Lib.hid (hnf.below HBA.out)
    have HF := Lib.hid hF
    have HFL := Lib.hid hFl
    have HCS := Lib.hid hcs
    have HPE := Lib.hid hpe
    have HSH := Lib.hid hsh
    obtain ⟨mm, hmm, hmod⟩ := mod12 ac
    have hmw : IntKind.i64.wrap (mm : Int) = (mm : Int) := by rw [IntKind.wrap_i64]; omega
    clear hd hcs hpe hsh hF hb hnf HT hFl HBA
    go_wp2_with fail
    clear c0 c1 c2 c3
    generalize hW : wr.alloc (.cells #[.int .i64 kc, .int .i64 ac, .int .u8 (xc.toNat : Int), .slice Ac nc cc] 55) = W at RY HD HB HNF ⊢
    have hWs : W.heap.size = wr.heap.size + 1 := by rw [← hW]; simp
    clear hW
    refine (arm_any dg d F (mm : Int) W HD.out.1 (by omega)).mono ?_
    rintro e W2 ⟨rfl, F2', hd2', hx2, ho2⟩
    obtain ⟨F2, hd2, hff⟩ := dk_min hd2'
    have HD2 := Lib.hid hd2
    have HF2 : Hid (∀ k, F2 k → w1.heap.size ≤ k) := Lib.hid fun k hk => ext_new HB.out.size hx2 HF.out k (hff k hk)
    have HN2 : Hid (¬ F2 wr.heap.size) := Lib.hid (fun hh => by
      rcases hx2 _ (hff _ hh) with h | h
      · have := HFL.out _ h; omega
      · omega)
    have HB2 := Lib.hid (below_off HB.out ho2 HF.out)
    have HNF2 := Lib.hid (HNF.out.off ho2 hx2 hff)
    have HR2 : Hid (Row W2 wr.heap.size 55 [.int .i64 kc, .int .i64 ac, .int .u8 (xc.toNat : Int), .slice Ac nc cc]) := Lib.hid ((ho2.block _ RY.out.lt (fun h => by have := HFL.out _ h; omega)).trans RY.out)
    have hsz2 : w1.heap.size ≤ W2.heap.size := HB2.out.size
    obtain ⟨ea, ep, ef⟩ := arm_same d (mm : Int)
    have hde : (d.armM (mm : Int)).1.dead = false := by
      unfold DM.armM
      rw [if_neg (by rw [HCS.out.1.1]; simp)]
      exact HCS.out.1.1
    obtain ⟨d2, hd2e⟩ : ∃ d2, (d.armM (mm : Int)).1 = d2 := ⟨_, rfl⟩
    rw [hd2e] at HD2 ea ep ef hde
    have HOO := Lib.hid (open_k (w1 := w1) HD2.out hde (by rw [ef]; exact HCS.out.1.2.2) (by rw [ep]; exact HPE.out) (by rw [ea]; exact HSH.out) HF2.out HB2.out)
    clear hd2' hx2 ho2 hd2 hff HD HB HF HFL HCS HPE HSH RY ea ep ef hde hd2e hmod hmw
    go_wp2_with fail
    refine HOO.out.mono ?_
    rintro e W3 ⟨p, v, rfl, d6, F6, hd6, hf6, hp6, hb6, hx6, ho6, hn6, hg6, hc6⟩
    have HR3 : Hid (Row W3 wr.heap.size 55 [.int .i64 kc, .int .i64 ac, .int .u8 (xc.toNat : Int), .slice Ac nc cc]) := Lib.hid ((ho6.block _ HR2.out.lt HN2.out).trans HR2.out)
    have HD6 := Lib.hid hd6
    have HF6 := Lib.hid hf6
    have HP6 := Lib.hid hp6
    have HB6 := Lib.hid hb6
    have HNF6 := Lib.hid (HNF2.out.off ho6 hx6 (fun _ h => h))
    clear HNF HNF2
    have HC6 := Lib.hid hc6
    clear HOO HR2 HN2 HB2 HD2 HF2 hd6 hf6 hp6 hb6 hx6 ho6 hn6 hc6
    by_cases hv : v = 0
    · subst hv
      obtain ⟨g8, rfl, hl8, hde8, hfs8, hpe8, hsh8, hcl8⟩ := hg6 rfl
      have HL8 := Lib.hid hl8
      have H8 := Lib.hid (And.intro hde8 (And.intro hfs8 (And.intro hpe8 (And.intro hsh8 hcl8))))
      clear hg6 hl8 hde8 hfs8 hpe8 hsh8 hcl8 HC6
      go_wp2_with fail
      refine (arm_any dg d6 F6 (-1) W3 HD6.out.1 (by omega)).mono ?_
      rintro e W4 ⟨rfl, F7', hd7', hx7, ho7⟩
      obtain ⟨F7, hd7, hf7⟩ := dk_min hd7'
      have hq : (d6.armM (-1)).1.dead = false ∧ (d6.armM (-1)).1.ps = false ∧ (d6.armM (-1)).1.fs = false ∧ (d6.armM (-1)).1.sec = d6.sec ∧ (d6.armM (-1)).1.pend = d6.pend := by
        unfold DM.armM
        rw [if_neg (by rw [H8.out.1]; simp)]
        exact ⟨H8.out.1, rfl, H8.out.2.1, rfl, rfl⟩
      obtain ⟨d9, hd9⟩ : ∃ d9, (d6.armM (-1)).1 = d9 := ⟨_, rfl⟩
      rw [hd9] at hq hd7
      have HFIN : Hid (OpenedN N w0 w1 dg area t fs (some ⟨g8, 0, none⟩) W4) := Lib.hid ⟨g8, F7, _, d9, rfl, hd7, log_off HL8.out HD6.out ho7, ⟨⟨hq.1, hq.2.1, hq.2.2.1⟩, by rw [hq.2.2.2.1]; exact H8.out.2.2.2.1.len⟩, by rw [hq.2.2.2.2]; exact H8.out.2.2.1, by rw [hq.2.2.2.1]; exact H8.out.2.2.2.1, by rw [hq.2.2.2.1]; exact H8.out.2.2.2.2, fun k hk => ext_new HB6.out.size hx7 HF6.out k (hf7 k hk), fun k hk => Nat.le_trans hsz2 hk, below_off HB6.out ho7 HF6.out, HNF6.out.off ho7 hx7 hf7⟩
      clear HNF6 hd7' hx7 ho7 hd7 hf7 hq hd9 HL8 H8 HD6 HF6 HB6 HP6 HR3
      go_wp2
      go_ret
      exact ⟨_, rfl, HFIN.out⟩
    · clear hg6
      have c3 : (W3.alloc (.cells #[] 4)).cell? ⟨wr.heap.size, 3, none⟩ = some (.slice Ac nc cc) := (HR3.out.alloc _).cell 3
      obtain ⟨i0, hi0, hz0, hz1, hz2⟩ := info_parts info4
      have HI := Lib.hid hi0
      have HZ0 := Lib.hid hz0
      have HZ1 := Lib.hid hz1
      have HZ2 := Lib.hid hz2
      have OWN0 : Hid ((W3.alloc (.cells #[] 4)).ownsRow W3.heap.size 4 1 (.slice (some ⟨W3.heap.size, 0, none⟩) 0 0) 0 []) := Lib.hid (World.ownsRow_made W3 #[] 0 (Nat.le_refl _) (Nat.zero_le _) rfl)
      have HVS : Hid (Vs (W3.alloc (.cells #[] 4)) w1.heap.size Ac (bools lc)) := Lib.hid (HX.out.vs.below (HB6.out.alloc HB6.out.size _))
      have HLC : Hid ((bools lc).length = nc) := Lib.hid (by rw [bools, List.length_map]; exact HX.out.len)
      have HAC := Lib.hid HX.out.nil
      have hnc2 : nc ≤ 140737488351232 := HX.out.most
      clear hi0 hz0 hz1 hz2
      go_wp2_with (first
        | (with_reducible refine wpList_append_vs (o := ⟨some 41, _, _, _, _, _⟩) ?_ (.tmp 38) (.tmp 40) 53 ?_ W3.heap.size 4 i0 (.bool false) Try.underlying53 HI.out HZ0.out HZ1.out HZ2.out ?_ (.slice (some ⟨W3.heap.size, 0, none⟩) 0 0) 0 [] ?_ OWN0.out Ac nc cc (bools lc) ?_ HLC.out w1.heap.size HVS.out bools_one HAC.out ?_ ?_ ?_))
      all_goals try (first | rfl | omega | (simp; done))
      intro v' W5 hown5 hg5
      have hown6 : W5.ownsRow W3.heap.size 4 1 v' nc (bools lc) := by simpa using hown5
      obtain ⟨A', c', rfl, _, _, hv5, hba5⟩ := own_vs hown6
      have hb5 : Below W3.heap.size W3 W5 := ((Below.refl _ _).alloc (Nat.le_refl _) _).grown hg5 (by simp) (fun k e => Nat.le_of_eq (Option.some.inj e))
      have HV5 := Lib.hid hv5
      have HFA : Hid (∀ b o s, A' = some ⟨b, o, s⟩ → ¬ F6 b) := Lib.hid fun b o s e hf => by have := hba5 b o s e; have := HD6.out.1.2 b hf; omega
      have HD65 := Lib.hid (HD6.out.below hb5)
      have HB5 := Lib.hid (HB6.out.trans (hb5.mono HB6.out.size))
      have HNF5 := Lib.hid (HNF6.out.below hb5)
      clear HNF6
      clear hown5 hg5 hown6 hv5 hba5 hb5 HD6 HB6 HR3 c3 OWN0 HVS HI HZ0 HZ1 HZ2 HLC HAC
      go_wp2_with fail
      refine (crash_any dg d6 F6 A' nc c' lc W5 HD65.out.1 (by have := HP6.out; omega) HX.out.len HV5.out HFA.out).mono ?_
      rintro e W6 ⟨rfl, F7', hd7', hx7, ho7⟩
      obtain ⟨F7, hd7, hf7⟩ := dk_min hd7'
      obtain ⟨q1, q2, q3⟩ := HC6.out lc
      have HTN : Hid (OKn N w0 w1 dg area t fs W6) := Lib.hid ⟨F7, _, hd7, q1, q2, q3, fun k hk => ext_new HB5.out.size hx7 HF6.out k (hf7 k hk), below_off HB5.out ho7 HF6.out, HNF5.out.off ho7 hx7 hf7⟩
      clear HNF5 hd7' hx7 ho7 hd7 hf7 q1 q2 q3 HD65 HB5 HFA HV5 HF6 HC6 HP6 HX
      go_wp2_with fail
      go_roundw
      case rel => exact ⟨k + 1, by omega, by go_num, HTN⟩
      case measure => simp [intOf]; omega
theorem append_kcn {N : Nat → Prop} {w0 : World} {w1 : World} {dg g area t : Nat} {fs : List (List UInt8)} {W : World} {F G : Nat → Prop} {d : DM} (hd : Dk W F dg d) (hlog : Log W G g dg area t fs false) (hl : Lies0 d t area fs) (hF : ∀ k, F k → w1.heap.size ≤ k) (hG : ∀ k, G k → w1.heap.size ≤ k) (hlen : fs.length ≤ 10000) (hb : Below w1.heap.size w1 W) (hnf : NF N w0 (fun k => F k ∨ G k) W)
    (A2 : Option Addr) (m c2 : Nat) (b : List UInt8) (hby : By W A2 m c2 b) (hbl : b.length = m) (hm : m ≤ 400) :
    Calls Try.prog 16 #[.pointer (some ⟨g, 0, none⟩), .slice A2 m c2] W fun e W' => ∃ v, e = .returned (.int .i64 v) ∧ ∃ F' d' fs', Dk W' F' dg d' ∧ Lies0 d' t area fs' ∧ (v = 0 ∧ fs' = fs ++ [b] ∨ v ≠ 0 ∧ fs' = fs) ∧ (∀ k, F' k → w1.heap.size ≤ k) ∧ Below w1.heap.size w1 W' ∧ NF N w0 F' W' := by
  have hus := hl.shows.used
  have h4 := hl.shows.a4
  have ham := hl.shows.am
  by_cases hroom : sects m ≤ area - usedM fs
  · have hap := append_lies0 hl (b := b) (by omega) (by rw [hbl]; exact hroom)
    refine (append_ok g dg area t fs A2 m c2 b d F G W hlog hd hby.sl (by omega) (by omega) hl.shows.tm hus hroom hlen (by rw [hl.pend]; exact Nat.zero_le _)).mono ?_
    rintro e W' ⟨rfl, F6, G6, hd6, hx6, hy6, ho6, hl6⟩
    exact ⟨_, rfl, F6, _, _, hd6, hap.2, .inl ⟨hap.1, rfl⟩, ext_new hb.size hx6 hF, below_off hb ho6 (fun k hk => hk.elim (hF k) (hG k)), hnf.off_left ho6 hx6⟩
  · refine (append_full g dg area t fs A2 m c2 G W hlog (by omega) (by omega) hus (by omega)).mono ?_
    rintro e W' ⟨rfl, hb6⟩
    exact ⟨_, rfl, F, d, fs, hd.below hb6, hl, .inr ⟨by decide, rfl⟩, hF, hb.trans (hb6.mono hb.size), (hnf.below hb6).mono (fun _ h => .inl h)⟩
theorem open_kkn {N : Nat → Prop} {w0 : World} {w1 : World} {dg area t : Nat} {fs : List (List UInt8)} {W : World} {F : Nat → Prop} {d : DM} (hd : Dk W F dg d) (hc : CalmS d (2 + 2 * area)) (hp : d.pend = []) (h : Shows d.sec t area fs) (hcl : Clean d.sec t area fs) (hF : ∀ k, F k → w1.heap.size ≤ k) (hb : Below w1.heap.size w1 W) (hnf : NF N w0 F W) :
    Calls Try.prog 20 #[.pointer (some ⟨dg, 0, none⟩)] W fun e W' => ∃ g F' G d', e = .returned (.tuple #[.pointer (some ⟨g, 0, none⟩), .int .i64 0]) ∧ Dk W' F' dg d' ∧ Log W' G g dg area t fs false ∧ Lies0 d' t area fs ∧ (∀ k, F' k → w1.heap.size ≤ k) ∧ (∀ k, G k → w1.heap.size ≤ k) ∧ Below w1.heap.size w1 W' ∧ NF N w0 (fun k => F' k ∨ G k) W' := by
  obtain ⟨o, ho⟩ := open_again hc.1.1 hc.1.2.2 hp h hcl
  refine (open_any dg d F W hd (by rw [hp]; exact Nat.zero_le _)).mono ?_
  intro e W' hop
  rw [ho] at hop
  obtain ⟨p, F8, rfl, hd8, hx8, ho8, _, hg8⟩ := hop
  obtain ⟨g8, rfl, hl8, _⟩ := hg8 rfl
  exact ⟨g8, F8, _, _, rfl, hd8, hl8, ⟨⟨hc.1, hc.2⟩, hp, h, clean_old hcl⟩, ext_new hb.size hx8 hF, fun k hk => Nat.le_trans hb.size hk, below_off hb ho8 hF, (hnf.off ho8 hx8 (fun _ h => h)).with_new (fun k hk h => by have := hnf.lt k hk; have : W.heap.size ≤ k := h; omega)⟩
theorem CutN.here {N : Nat → Prop} {w0 w1 : World} {dg area : Nat} {W : World} {v : Int} {t : Nat} {fs : List (List UInt8)} {t2 : Nat} {fs2 : List (List UInt8)} (h : CutN N w0 w1 dg area W v t fs t2 fs2) : CutN N W w1 dg area W v t fs t2 fs2 ∧ (∀ k, N k → W.heap[k]? = w0.heap[k]?) := by
  obtain ⟨d6, F6, h1, h2, h3, h4⟩ := h
  exact ⟨⟨d6, F6, h1, h2, ⟨fun _ _ => rfl, h3.lt, h3.no⟩, h4⟩, h3.same⟩
/-- what is thought is told anew, and stored -/
theorem cutn_aft {N : Nat → Prop} {w1 : World} {dg : Nat} {W W5 W6 : World} {v : Int} {t : Nat} {fs : List (List UInt8)} {t2 : Nat} {fs2 : List (List UInt8)} {bn : Nat} {c c' : List Value} {nb : List UInt8} {nL : List (List UInt8)} (h : CutN N W w1 dg 8 W v t fs t2 fs2) (hnb : N bn) (hr : Row W bn 60 c) (hlo : ∀ k, N k → w1.heap.size ≤ k) (hbW : Below w1.heap.size w1 W) (hb : Below W.heap.size W W5)
    (hs : StN W5 (N2 W N) (.agg c'.toArray) nb nL) (hr6 : Row W6 bn 60 c') (hg : W5.grownBy W6 (some bn)) :
    CutN (fun k => N2 W N k ∧ k < W5.heap.size) W6 w1 dg 8 W6 v t fs t2 fs2 ∧ StN W6 (fun k => N2 W N k ∧ k < W5.heap.size) (.agg c'.toArray) nb nL ∧ (N2 W N bn ∧ bn < W5.heap.size) ∧ (∀ k, (N2 W N k ∧ k < W5.heap.size) → w1.heap.size ≤ k) ∧ Below w1.heap.size w1 W6 := by
  obtain ⟨d6, F6, h1, h2, h3, h4⟩ := h
  have hr5 : Row W5 bn 60 c := hr.below hb hr.lt
  refine ⟨⟨d6, F6, (h1.below hb).grown hr5 (by decide) (by decide) (by decide) hg, h2, ⟨fun _ _ => rfl, fun k hk => Nat.lt_of_lt_of_le hk.2 hg.size, fun k hk hf => ?_⟩, h4⟩, stn_grown hs.tight hr5 hg, ⟨.inl hnb, hr5.lt⟩, fun k hk => hk.1.elim (hlo k) (fun h => Nat.le_trans hbW.size h), ?_⟩
  · rcases hk.1 with h | h
    · exact h3.no k h hf
    · have := h1.1.2 k hf; omega
  · exact (hbW.trans (hb.mono hbW.size)).grown hg (Nat.le_trans hbW.size hb.size) (fun q e => by have := Option.some.inj e; have := hlo bn hnb; omega)
end Go.Proofs.Yteemdjamgbbjhaa.Wl

/-
  The contracts of the calls that seal and open.
-/
namespace Go.Proofs.Yteemdjamgbbjhaa.Sum
open Go.RowKit Go.Proofs.Yteemdjamgbbjhaa.Wd Go.Proofs.Yteemdjamgbbjhaa.Oct Go.Proofs.Yteemdjamgbbjhaa.Sm

theorem below_still {B : Nat} {a w w' : World} (h : Below B a w) (hs : Still w w') : Below B a w' := by
  obtain ⟨n, rfl⟩ := hs
  exact ⟨h.os, h.tape, h.output, h.size, h.block⟩
theorem lit_bs (w : World) (l : List UInt8) (t : TypeId) : Bs (w.alloc (.cells (bv l).toArray t)) (w.heap.size + 1) (some ⟨w.heap.size, 0, none⟩) l :=
  (Row.new w t (bv l)).bs (by omega)

/-- a number's n bytes the other way round -/
def rev (n x : Nat) : Nat := num (lo n x)
theorem hi_num : ∀ l : List UInt8, hi l.length (num l) = l
  | [] => rfl
  | c :: l => by
    have h := num_lt l
    have hp : 0 < 256 ^ l.length := Nat.pow_pos (by omega)
    have e2 := hi_mod l.length l.length (c.toNat * 256 ^ l.length + num l) (Nat.le_refl _)
    rw [Nat.add_comm, Nat.add_mul_mod_self_right, Nat.mod_eq_of_lt h, hi_num l] at e2
    rw [List.length_cons, num_cons, hi, Nat.add_comm, ← e2, Nat.add_mul_div_right _ _ hp, Nat.div_eq_of_lt h, Nat.zero_add]
    simp
theorem hi_rev (n x : Nat) : hi n (rev n x) = lo n x := by
  have h := hi_num (lo n x)
  rwa [lo_length] at h
theorem rev_lt (n x : Nat) : rev n x < 256 ^ n := by
  have h := num_lt (lo n x)
  rwa [lo_length] at h
theorem rev2 (x : Nat) (hx : x < 65536) : rev 2 x = x % 256 * 256 + x / 256 := by
  simp [rev, lo, num]; omega
theorem rev4 (x : Nat) (hx : x < 4294967296) : rev 4 x = x % 256 * 16777216 + x / 256 % 256 * 65536 + x / 65536 % 256 * 256 + x / 16777216 := by
  simp only [rev, lo, num, List.foldl_cons, List.foldl_nil, UInt8.toNat_ofNat', Nat.div_div_eq_div_mul, Nat.reduceMul, Nat.reducePow]; omega
theorem and_split {i al bl : Nat} (ha : al < 2 ^ i) (hb : bl < 2 ^ i) (ah bh : Nat) : (2 ^ i * ah + al) &&& (2 ^ i * bh + bl) = 2 ^ i * (ah &&& bh) + (al &&& bl) := by
  apply Nat.eq_of_testBit_eq
  intro j
  rw [Nat.testBit_and, Nat.testBit_two_pow_mul_add _ ha, Nat.testBit_two_pow_mul_add _ hb, Nat.testBit_two_pow_mul_add _ (Nat.and_lt_two_pow _ hb)]
  split <;> simp
theorem or_split {i al bl : Nat} (ha : al < 2 ^ i) (hb : bl < 2 ^ i) (ah bh : Nat) : (2 ^ i * ah + al) ||| (2 ^ i * bh + bl) = 2 ^ i * (ah ||| bh) + (al ||| bl) := by
  apply Nat.eq_of_testBit_eq
  intro j
  rw [Nat.testBit_or, Nat.testBit_two_pow_mul_add _ ha, Nat.testBit_two_pow_mul_add _ hb, Nat.testBit_two_pow_mul_add _ (Nat.or_lt_two_pow ha hb)]
  split <;> simp
theorem and_low (x : Nat) : x &&& 255 = x % 256 := Nat.and_two_pow_sub_one_eq_mod x 8
theorem and_mask (m : Nat) : m &&& 16711935 = 65536 * (m / 65536 % 256) + m % 256 := by
  have h := and_split (i := 16) (al := m % 65536) (bl := 255) (Nat.mod_lt _ (by decide)) (by decide) (m / 65536) 255
  rw [and_low, and_low] at h
  have e1 : 2 ^ 16 * (m / 65536) + m % 65536 = m := by omega
  rw [e1] at h
  have e2 : m % 65536 % 256 = m % 256 := by omega
  rw [e2] at h
  exact h
theorem or_bytes {a b : Nat} (ha : a < 256) : a ||| 256 * b = 256 * b + a := by
  have := Nat.two_pow_add_eq_or_of_lt (i := 8) (b := a) (by simpa using ha) b
  rw [Nat.or_comm]
  exact this.symm
theorem or_bytes2 {b0 b1 b2 b3 : Nat} (h0 : b0 < 256) (h1 : b1 < 256) (h3 : b3 < 256) : (65536 * b3 + b1) ||| 256 * (65536 * b2 + b0) = 65536 * (256 * b2 + b3) + (256 * b0 + b1) := by
  have h := or_split (i := 16) (al := b1) (bl := 256 * b0) (by omega) (by omega) b3 (256 * b2)
  rw [or_bytes h1, or_bytes h3] at h
  have e : 256 * (65536 * b2 + b0) = 2 ^ 16 * (256 * b2) + 256 * b0 := by omega
  rw [e]
  exact h

/-- how opening goes: the error, and what goes out -/
def res (p n : Nat) (l : List UInt8) : Int × List UInt8 :=
  if l.length < n then (7, []) else if sealed p n (l.take (l.length - n)) = l then (0, l.take (l.length - n)) else (130, [])
/-- what an opening leaves -/
def Opn (w : World) (r : Int × List UInt8) (e : Ending) (w' : World) : Prop :=
  ∃ A m c l q, e = .returned (.tuple #[.slice A m c, .int .i64 q]) ∧ Hid (l.length = m) ∧ m ≤ c ∧ (A = none → c = 0) ∧ Bs w' w'.heap.size A l ∧ Below w.heap.size w w' ∧ Hid (r = (q, l))

end Go.Proofs.Yteemdjamgbbjhaa.Sum

/-
  The contract of the reference's Both.
-/
namespace Go.Proofs.Yteemdjamgbbjhaa.Oct
open Go.RowKit Go.Proofs.Yteemdjamgbbjhaa.Wd

end Go.Proofs.Yteemdjamgbbjhaa.Oct

/-
  The contracts of the statements' own calls and of the reference.
-/
namespace Go.Proofs.Yteemdjamgbbjhaa.Sum
open Go.RowKit Go.Proofs.Yteemdjamgbbjhaa.Wd Go.Proofs.Yteemdjamgbbjhaa.Oct Go.Proofs.Yteemdjamgbbjhaa.Sm

def nine : List UInt8 := [49, 50, 51, 52, 53, 54, 55, 56, 57]
theorem lit_bs2 (w : World) (l : List UInt8) (t : TypeId) (fr : Nat × Nat) : Bs (w.alloc (.cells (bv l).toArray t fr)) (w.heap.size + 1) (some ⟨w.heap.size, 0, none⟩) l := fun _ =>
  ⟨w.heap.size, 0, rfl, by omega, fun i hi => by rw [Nat.zero_add, cell_of_row _ w.heap.size i _ t fr (heap_alloc_new w _)]; simp [bv, hi]⟩
theorem ref16_any (A : Option Addr) (l : List UInt8) (c n : Nat) (w : World) (h1 : l.length = n) (hm : n ≤ maxLen) (B : Nat) (r : Bs w B A l) :
    Calls Try.prog 75 #[.slice A n c, .int .i64 16] w fun e w' => e = .returned (.int .u64 ((sm 33800 2 l : Nat) : Int)) ∧ w = w' := by
  unfold maxLen at hm
  have H1 := Lib.hid h1; clear h1
  go_enter Try.func75, Try.ntmps75
  go_wp2
  go_loop [7, 8, 9] (fun x i _ => ∃ k y : Nat, k ≤ n ∧ y < 65536 ∧ i = .int .i64 k ∧ x = .int .u64 (y : Int) ∧ Hid (tot 33800 (ones 2) (l.take k) = y)) (fun _ i _ => n - (intOf i).toNat)
  case atStart => exact ⟨0, ones 2, by omega, by decide, rfl, by simp [ones2], (show _ = _ by simp [tot])⟩
  case round =>
    obtain ⟨k, y, hk, hy, rfl, rfl, hr⟩ := hrel
    by_cases hlt : k < n
    · have hk' : k < l.length := by rw [H1.out]; exact hlt
      obtain ⟨b1, o1, rfl, hb1, hc1⟩ := r (by omega)
      have hx1 := hc1 k hk'
      have HT := Lib.hid (tot_take 33800 (ones 2) l k hk')
      clear hc1
      generalize l.getD k 0 = x at hx1 HT
      have hxl : x.toNat < 256 := x.toNat_lt
      have hx := u64_xor_nat y x.toNat (by omega) (by omega)
      have hq0 : y ^^^ x.toNat < 65536 := Nat.xor_lt_two_pow (n := 16) hy (by omega)
      have HS : Hid (halves 33800 8 (y ^^^ x.toNat) = stp 33800 y x) := (show _ = _ from rfl)
      generalize y ^^^ x.toNat = q at hx hq0 HS
      have HQ : Hid (tot 33800 (ones 2) (l.take (k + 1)) = stp 33800 y x) := (show _ = _ by rw [← HT.out, hr.out])
      clear HT
      have hwr : IntKind.u64.wrap (x.toNat : Int) = (x.toNat : Int) := by rw [IntKind.wrap_u64]; omega
      generalize hxn : x.toNat = xn at hx1 hx hwr hxl
      clear hxn
      go_wp2
      clear hwr hx
      go_loop [7, 9] (fun z j => ∃ m v : Nat, m ≤ 8 ∧ v < 65536 ∧ j = .int .i64 m ∧ z = .int .u64 (v : Int) ∧ Hid (halves 33800 (8 - m) v = stp 33800 y x)) (fun _ j => 8 - (intOf j).toNat)
      case atStart => exact ⟨0, q, by omega, hq0, rfl, rfl, HS⟩
      case round =>
        obtain ⟨m, v, hm8, hv, rfl, rfl, hs⟩ := hrel
        by_cases hlt8 : m < 8
        · rw [show 8 - m = 8 - (m + 1) + 1 from by omega, halves] at hs
          by_cases hodd : v % 2 = 1
          · have e := u64_xor_nat (v / 2) 33800 (by omega) (by omega)
            have ho : ((v : Int) % 2 == 1) = true := by simp; omega
            have hv1 : 0 ≤ (v : Int) - 1 := by omega
            go_wp2
            go_round
            case rel =>
              refine ⟨m + 1, half 33800 v, by omega, half_lt (k := 16) (by decide) hv, by go_num, ?_, hs⟩
              rw [half_odd hodd, ← e]
              congr 2
              omega
            case measure => simp [intOf]; omega
          · have h0 : v % 2 = 0 := by omega
            have ho : ((v : Int) % 2 == 1) = false := by simp; omega
            clear hodd
            go_wp2
            go_round
            case rel =>
              refine ⟨m + 1, half 33800 v, by omega, half_lt (k := 16) (by decide) hv, by go_num, ?_, hs⟩
              rw [half_even h0]
              simp
            case measure => simp [intOf]; omega
        · obtain rfl : m = 8 := by omega
          have HV : Hid (v = stp 33800 y x) := hs
          clear hs
          go_wp2
          go_round
          case rel => exact ⟨k + 1, v, by omega, hv, by go_num, rfl, (show _ = _ by rw [HQ.out, ← HV.out])⟩
          case measure => simp [intOf]; omega
    · obtain rfl : k = n := by omega
      have HR : Hid (tot 33800 (ones 2) l = y) := (show _ = _ by rw [← hr.out, List.take_of_length_le (by rw [H1.out]; exact Nat.le_refl _)])
      clear hr
      have hx := u64_xor_nat y (ones 2) (by omega) (by decide)
      have HX := Lib.hid hx
      clear hx
      go_wp2
      go_ret
      refine ⟨ret_int ?_, rfl⟩
      have := HX.out
      rw [sm, HR.out, ← this]
      rfl

theorem ref32_any (A : Option Addr) (l : List UInt8) (c n : Nat) (w : World) (h1 : l.length = n) (hm : n ≤ maxLen) (B : Nat) (r : Bs w B A l) :
    Calls Try.prog 75 #[.slice A n c, .int .i64 32] w fun e w' => e = .returned (.int .u64 ((sm 2197175160 4 l : Nat) : Int)) ∧ w = w' := by
  unfold maxLen at hm
  have H1 := Lib.hid h1; clear h1
  go_enter Try.func75, Try.ntmps75
  go_wp2
  go_loop [7, 8, 9] (fun x i _ => ∃ k y : Nat, k ≤ n ∧ y < 4294967296 ∧ i = .int .i64 k ∧ x = .int .u64 (y : Int) ∧ Hid (tot 2197175160 (ones 4) (l.take k) = y)) (fun _ i _ => n - (intOf i).toNat)
  case atStart => exact ⟨0, ones 4, by omega, by decide, rfl, by simp [ones4], (show _ = _ by simp [tot])⟩
  case round =>
    obtain ⟨k, y, hk, hy, rfl, rfl, hr⟩ := hrel
    by_cases hlt : k < n
    · have hk' : k < l.length := by rw [H1.out]; exact hlt
      obtain ⟨b1, o1, rfl, hb1, hc1⟩ := r (by omega)
      have hx1 := hc1 k hk'
      have HT := Lib.hid (tot_take 2197175160 (ones 4) l k hk')
      clear hc1
      generalize l.getD k 0 = x at hx1 HT
      have hxl : x.toNat < 256 := x.toNat_lt
      have hx := u64_xor_nat y x.toNat (by omega) (by omega)
      have hq0 : y ^^^ x.toNat < 4294967296 := Nat.xor_lt_two_pow (n := 32) hy (by omega)
      have HS : Hid (halves 2197175160 8 (y ^^^ x.toNat) = stp 2197175160 y x) := (show _ = _ from rfl)
      generalize y ^^^ x.toNat = q at hx hq0 HS
      have HQ : Hid (tot 2197175160 (ones 4) (l.take (k + 1)) = stp 2197175160 y x) := (show _ = _ by rw [← HT.out, hr.out])
      clear HT
      have hwr : IntKind.u64.wrap (x.toNat : Int) = (x.toNat : Int) := by rw [IntKind.wrap_u64]; omega
      generalize hxn : x.toNat = xn at hx1 hx hwr hxl
      clear hxn
      go_wp2
      clear hwr hx
      go_loop [7, 9] (fun z j => ∃ m v : Nat, m ≤ 8 ∧ v < 4294967296 ∧ j = .int .i64 m ∧ z = .int .u64 (v : Int) ∧ Hid (halves 2197175160 (8 - m) v = stp 2197175160 y x)) (fun _ j => 8 - (intOf j).toNat)
      case atStart => exact ⟨0, q, by omega, hq0, rfl, rfl, HS⟩
      case round =>
        obtain ⟨m, v, hm8, hv, rfl, rfl, hs⟩ := hrel
        by_cases hlt8 : m < 8
        · rw [show 8 - m = 8 - (m + 1) + 1 from by omega, halves] at hs
          by_cases hodd : v % 2 = 1
          · have e := u64_xor_nat (v / 2) 2197175160 (by omega) (by omega)
            have ho : ((v : Int) % 2 == 1) = true := by simp; omega
            have hv1 : 0 ≤ (v : Int) - 1 := by omega
            go_wp2
            go_round
            case rel =>
              refine ⟨m + 1, half 2197175160 v, by omega, half_lt (k := 32) (by decide) hv, by go_num, ?_, hs⟩
              rw [half_odd hodd, ← e]
              congr 2
              omega
            case measure => simp [intOf]; omega
          · have h0 : v % 2 = 0 := by omega
            have ho : ((v : Int) % 2 == 1) = false := by simp; omega
            clear hodd
            go_wp2
            go_round
            case rel =>
              refine ⟨m + 1, half 2197175160 v, by omega, half_lt (k := 32) (by decide) hv, by go_num, ?_, hs⟩
              rw [half_even h0]
              simp
            case measure => simp [intOf]; omega
        · obtain rfl : m = 8 := by omega
          have HV : Hid (v = stp 2197175160 y x) := hs
          clear hs
          go_wp2
          go_round
          case rel => exact ⟨k + 1, v, by omega, hv, by go_num, rfl, (show _ = _ by rw [HQ.out, ← HV.out])⟩
          case measure => simp [intOf]; omega
    · obtain rfl : k = n := by omega
      have HR : Hid (tot 2197175160 (ones 4) l = y) := (show _ = _ by rw [← hr.out, List.take_of_length_le (by rw [H1.out]; exact Nat.le_refl _)])
      clear hr
      have hx := u64_xor_nat y (ones 4) (by omega) (by decide)
      have HX := Lib.hid hx
      clear hx
      go_wp2
      go_ret
      refine ⟨ret_int ?_, rfl⟩
      have := HX.out
      rw [sm, HR.out, ← this]
      rfl
end Go.Proofs.Yteemdjamgbbjhaa.Sum

/-
  The reference of wal: high, Area, Sectors.
-/
namespace Go.Proofs.Yteemdjamgbbjhaa.Wr
set_option maxRecDepth 100000
open Go.RowKit Go.Shelf Go.Lib Go.Proofs.Yteemdjamgbbjhaa.Wd Go.Proofs.Yteemdjamgbbjhaa.Dsk Go.Proofs.Yteemdjamgbbjhaa.Oct Go.Proofs.Yteemdjamgbbjhaa.Sum Go.Proofs.Yteemdjamgbbjhaa.Beq Go.Proofs.Yteemdjamgbbjhaa.Wl

/-- a slice of bytes of one's own, of blocks from base on -/
def Own (w : World) (base : Nat) (v : Value) (l : List UInt8) : Prop := w.ownsRow base 5 1 v l.length (bv l)
theorem Own.open {w : World} {base : Nat} {v : Value} {l : List UInt8} (h : Own w base v l) : ∃ A n c, v = .slice A n c ∧ l.length = n ∧ n ≤ c ∧ c ≤ maxLen ∧ (A = none → c = 0) ∧ Bs w w.heap.size A l := by
  obtain ⟨A, c, rfl, h1, h2, h3, h4, h5, _⟩ := own_bs h
  exact ⟨A, _, c, rfl, h1, h2, h3, h4, h5⟩
theorem Own.kept {w w' : World} {base : Nat} {v : Value} {l : List UInt8} {r : Option Nat} (h : Own w base v l) (hg : w.grownBy w' r) (hne : v.ownBlock = none ∨ v.ownBlock ≠ r) : Own w' base v l := World.ownsRow.kept h hg hne
theorem Own.below {w w' : World} {base : Nat} {v : Value} {l : List UInt8} (h : Own w base v l) (hb : Below w.heap.size w w') : Own w' base v l :=
  h.kept (r := none) ⟨hb.os, hb.tape, hb.output, hb.size, fun k hk _ => hb.block k hk⟩ (by cases v.ownBlock <;> simp)
/-- what a call leaves that lengthens bytes of one's own -/
def Grew (w : World) (base : Nat) (l : List UInt8) (e : Ending) (w' : World) : Prop := ∃ v, e = .returned v ∧ Own w' base v l ∧ Below base w w'
theorem below_own {base : Nat} {w w' : World} {v : Value} (hg : w.grownBy w' v.ownBlock) (h : ∀ k, v.ownBlock = some k → base ≤ k) (hs : base ≤ w.heap.size) : Below base w w' :=
  (Below.refl _ _).grown hg hs h
theorem hi_take (n x : Nat) : ∀ j, j < n → (hi n x).take (j + 1) = (hi n x).take j ++ [UInt8.ofNat (x / 256 ^ (n - 1 - j))] := by
  induction n with
  | zero => intro j hj; omega
  | succ n ih =>
    intro j hj
    cases j with
    | zero => simp [hi]
    | succ j =>
      have := ih j (by omega)
      rw [hi, List.take_succ_cons, this, List.take_succ_cons, List.cons_append, show n + 1 - 1 - (j + 1) = n - 1 - j from by omega]
theorem shr_byte (x p : Nat) : ((UInt8.ofNat (x / 256 ^ p)).toNat : Int) = (x : Int) / 2 ^ (8 * p) % 256 := by
  have e : (256 : Nat) ^ p = 2 ^ (8 * p) := by rw [Nat.pow_mul]
  rw [e]
  simp
theorem rhigh_any (x n : Nat) (w : World) (hn : 0 < n) (hn8 : n ≤ 8) :
    Calls Try.prog 74 #[.int .u64 (x : Int), .int .i64 (n : Int)] w (Grew w w.heap.size (hi n x)) := by
  obtain ⟨i0, hi0, hz0, hz1, hz2⟩ := info_parts info5
  go_enter Try.func74, Try.ntmps74
  go_wp2_with fail
  go_loopw [5, 6] (fun t5 t6 wr => ∃ (j : Nat) (q : Int) (v : Value), j ≤ n ∧ t5 = v ∧ t6 = .int .i64 q ∧ Hid (q = (n : Int) - 1 - j) ∧ Hid (Own wr w.heap.size v ((hi n x).take j) ∧ Below w.heap.size w wr)) (fun _ t6 _ => (intOf t6 + 1).toNat)
  case atStart => exact ⟨0, (n : Int) - 1, _, by omega, rfl, rfl, (show _ = _ by simp), ⟨World.ownsRow_nil _ _ _ _, Below.refl _ _⟩⟩
  case round =>
    obtain ⟨j, q, v, hj, rfl, rfl, HQ, HO⟩ := hrel
    by_cases hlt : j < n
    · obtain ⟨p, hp⟩ : ∃ p : Nat, q = (p : Int) := ⟨q.toNat, by have := HQ.out; omega⟩
      subst hp
      have hp8 : p < 8 := by have := HQ.out; omega
      have HPE : Hid (n - 1 - j = p) := (show _ = _ by have := HQ.out; omega)
      have hge : 0 ≤ (p : Int) := by omega
      have hpx : ((UInt8.ofNat (x / 256 ^ p)).toNat : Int) = (x : Int) / 2 ^ (8 * p) % 256 := shr_byte x p
      obtain ⟨l, hl⟩ : ∃ l, l = (hi n x).take j := ⟨_, rfl⟩
      have hlj : l.length = j := by rw [hl, List.length_take, hi_length]; omega
      have HNX : Hid ((hi n x).take (j + 1) = l ++ [UInt8.ofNat (x / 256 ^ p)]) := (show _ = _ by rw [hi_take n x j hlt, HPE.out, hl])
      rw [← hl] at HO
      clear hl
      generalize hub : UInt8.ofNat (x / 256 ^ p) = ub at hpx HNX
      clear hub
      have HOO := Lib.hid HO.out.1
      have HOB := Lib.hid HO.out.2
      clear HO
      have HRB : Hid (Row (wr.alloc (.cells #[.int .u8 ((x : Int) / 2 ^ (8 * p) % 256)] 5)) wr.heap.size 5 (bv [ub])) := (show Row _ _ _ _ by
        rw [show bv [ub] = [Value.int .u8 ((x : Int) / 2 ^ (8 * p) % 256)] from by rw [← hpx]; rfl]
        exact Row.new wr _ _)
      have hj8 : j ≤ 8 := by omega
      clear hpx
      go_upto_region 4 with (first
        | (at_builtin; (refine wpList_append_bs (o := ⟨some 20, _, _, _, _, _⟩) rfl (.tmp 13) (.tmp 19) 37 rfl w.heap.size 5 i0 (.int .u8 0) Try.underlying37 hi0 hz0 hz1 hz2 rfl u5 l.length (bv l) rfl (HOO.out.below ((Below.refl _ _).alloc (Nat.le_refl _) _)) (some ⟨wr.heap.size, 0, none⟩) 1 1 [ub] rfl rfl (wr.heap.size + 1) (Row.bs HRB.out (Nat.lt_succ_self _)) (fun h => by cases h) (by omega) (by have := HOB.out.size; simp; omega) ?_; intro v2 w2 hown2 hg2)))
      have HO2 : Hid (Own w2 w.heap.size v2 (l ++ [ub])) := Lib.hid (show Own w2 w.heap.size v2 (l ++ [ub]) from (by unfold Own; rw [List.length_append, bv_append]; exact hown2))
      have HB2 := Lib.hid (HOB.out.trans (((Below.refl w.heap.size wr).alloc (show w.heap.size ≤ wr.heap.size from HOB.out.size) _).trans (below_own hg2 (fun k hk => (World.ownsRow.lt HOO.out k hk).1) (by have := HOB.out.size; simp; omega))))
      clear hown2 hg2 HRB HOO HOB
      go_wp2
      go_roundw
      case rel => exact ⟨j + 1, (p : Int) - 1, v2, by omega, rfl, by go_num, (show _ = _ by have := HQ.out; omega), ⟨by rw [HNX.out]; exact HO2.out, HB2.out⟩⟩
      case measure => simp [intOf] <;> omega
    · obtain rfl : j = n := by omega
      have hq : q = -1 := by have := HQ.out; omega
      subst hq
      have HV : Hid (Own wr w.heap.size u5 (hi j x)) := (show Own _ _ _ _ by have := HO.out.1; rw [List.take_of_length_le (by rw [hi_length]; omega)] at this; exact this)
      have HBE := Lib.hid HO.out.2
      clear HO
      go_wp2
      go_ret
      exact ⟨_, rfl, HV.out, HBE.out⟩
theorem rhigh4 (x : Nat) (w : World) : Calls Try.prog 74 #[.int .u64 (x : Int), .int .i64 4] w (Grew w w.heap.size (hi 4 x)) := by
  have h := rhigh_any x 4 w (by omega) (by omega)
  rw [show ((4 : Nat) : Int) = 4 from rfl] at h
  exact h
theorem rhigh2 (x : Nat) (w : World) : Calls Try.prog 74 #[.int .u64 (x : Int), .int .i64 2] w (Grew w w.heap.size (hi 2 x)) := by
  have h := rhigh_any x 2 w (by omega) (by omega)
  rw [show ((2 : Nat) : Int) = 2 from rfl] at h
  exact h
theorem wp_append_a {P : Program} {w : World} {o : Oper} {a : Act} {K : Act → World → Prop} {Q : Exit → Act → World → Prop} (s x : Operand) (t : TypeId)
    (ho : o.op = .call { callee := .builtin .append, args := #[s, x], argTypes := #[t, t] })
    (base : Nat) (e : TypeId) (i : TypeInfo) (z : Value) (ht : P.underlying t = some (.slice e)) (hi : P.info? e = some i) (hz : i.zero = some z) (hsize : i.size = 1) (hby : i.bytes = 1) (hzs : z.cells.size = 1)
    (v : Value) (n : Nat) (xs : List Value) (hs : a.eval s = v) (hown : w.ownsRow base e 1 v n xs)
    (ad : Addr) (m c : Nat) (l : List UInt8) (hx : a.eval x = .slice (some ad) m c) (hl : l.length = m) (B : Nat) (hr : Bs w B (some ad) l)
    (h63 : n + m ≤ 140737488355328) (hbase : base ≤ w.heap.size)
    (h : ∀ v' w', w'.ownsRow base e 1 v' (n + m) (xs ++ bv l) → w.grownBy w' v.ownBlock → K (a.put o.dst v') w') : o.wp P a w K Q := by
  refine wp_append_own w s x t ho base e i z 1 1 ht hi hz hsize hby hzs (by omega) v n xs hs hown ad m c (bv l) hx (by rw [bv_length]; omega) (fun j u hu => ?_) bv_one (by unfold maxLen; omega) (by omega) hbase fun v' w' h2 h3 _ => h v' w' h2 h3
  have hj : j < l.length := by simpa [bv_length] using (List.getElem?_eq_some_iff.1 hu).1
  obtain ⟨b, o, e, _, hc⟩ := hr (by omega)
  obtain rfl := Option.some.inj e
  rw [Addr.add_lit, hc j hj, ← hu]
  simp [bv, hj]
theorem rarea_any (n : Int) (w : World) : Calls Try.prog 48 #[.int .i64 n] w fun e w' => e = .returned (.bool (decide (4 ≤ n) && decide (n ≤ 1000))) ∧ w' = w := by
  by_cases h1 : 4 ≤ n
  · by_cases h2 : n ≤ 1000
    · have b1 : decide (4 ≤ n) = true := by simp [h1]
      have b2 : decide (n ≤ 1000) = true := by simp [h2]
      go_enter Try.func48, Try.ntmps48
      go_wp2
      go_ret
      exact ⟨by rw [b1, b2]; rfl, rfl⟩
    · have b1 : decide (4 ≤ n) = true := by simp [h1]
      have b2 : decide (n ≤ 1000) = false := by simp; omega
      go_enter Try.func48, Try.ntmps48
      go_wp2
      go_ret
      exact ⟨rfl, rfl⟩
  · have b1 : decide (4 ≤ n) = false := by simp; omega
    go_enter Try.func48, Try.ntmps48
    go_wp2
    go_ret
    exact ⟨rfl, rfl⟩
theorem rsectors_any (n : Nat) (w : World) (hn : n ≤ 40000) : Calls Try.prog 11 #[.int .i64 (n : Int)] w fun e w' => e = .returned (.int .i64 (sects n : Int)) ∧ w' = w := by
  have b1 : decide ((n : Int) < 0) = false := by simp
  have b2 : decide (40000 < (n : Int)) = false := by simp; omega
  have h1 : ¬ (n : Int) < 0 := by omega
  have h2 : ¬ (40000 : Int) < (n : Int) := by omega
  have e1 : wrap64 (4 + (n : Int)) = 4 + (n : Int) := by unfold wrap64; omega
  have e2 : wrap64 (4 + (n : Int) + 47) = 4 + (n : Int) + 47 := by unfold wrap64; omega
  have e3 : (4 + (n : Int) + 47).tdiv 48 = (sects n : Int) := by unfold sects; rw [Int.tdiv_eq_ediv_of_nonneg (by omega)]; omega
  have e4 : wrap64 (sects n : Int) = (sects n : Int) := by unfold sects wrap64; omega
  go_enter Try.func11, Try.ntmps11
  go_wp2
  go_ret
  exact ⟨by first | rfl | (rw [e3]), rfl⟩
end Go.Proofs.Yteemdjamgbbjhaa.Wr

/-
  The reference of wal: a head.
-/
namespace Go.Proofs.Yteemdjamgbbjhaa.Wr
set_option maxRecDepth 100000
open Go.RowKit Go.Shelf Go.Lib Go.Proofs.Yteemdjamgbbjhaa.Wd Go.Proofs.Yteemdjamgbbjhaa.Dsk Go.Proofs.Yteemdjamgbbjhaa.Oct Go.Proofs.Yteemdjamgbbjhaa.Sum Go.Proofs.Yteemdjamgbbjhaa.Beq Go.Proofs.Yteemdjamgbbjhaa.Wl

theorem zeroCells_eq (m : Nat) : Builtin.zeroCells (Value.int .u8 0).cells m = (List.replicate m (Value.int .u8 0)).toArray := by
  apply Array.ext
  · simp [Builtin.zeroCells, Value.cells]
  · intro i h1 h2
    simp [Builtin.zeroCells, Value.cells, Nat.mod_one]
theorem zero_one (m : Nat) : ∀ u ∈ List.replicate m (Value.int .u8 0), u.oneCell' = true := by
  intro u hu
  rw [List.eq_of_mem_replicate hu]
  rfl
/-- append of noughts to a row of the call's own -/
theorem run_append_own_zeros {P : Program} (w : World) (base : Nat) (t tn ty e : TypeId) (i : TypeInfo) (ht : P.underlying t = some (.slice e)) (htn : P.underlying tn = some (.int .i64)) (hi : P.info? e = some i) (hz : i.zero = some (.int .u8 0))
    (hsize : i.size = 1) (hby : i.bytes = 1) (v : Value) (n : Nat) (xs : List Value) (hown : w.ownsRow base e 1 v n xs) (m : Nat) (h63 : n + m ≤ 140737488355328) (hbase : base ≤ w.heap.size) :
    ∃ v' w', (Builtin.append_ #[t, tn] ty #[v, .int .i64 (m : Int)]).run P w = .ok v' w' ∧ w'.ownsRow base e 1 v' (n + m) (xs ++ List.replicate m (.int .u8 0)) ∧ w.grownBy w' v.ownBlock := by
  have hmax : n + m ≤ maxLen := by unfold maxLen; omega
  have hlen : (xs ++ List.replicate m (Value.int .u8 0)).length = (n + m) * 1 := by rw [List.length_append, hown.1, List.length_replicate, Nat.add_mul]; omega
  have hw : IntKind.i64.wrap (m : Int) = m := by rw [IntKind.wrap_i64]; omega
  have hw0 : IntKind.i64.wrap 0 = 0 := by decide
  have hneg : ¬ ((m : Int) < 0) := by omega
  have h48i : ¬ (281474976710656 < (m : Int)) := by omega
  have grown : ∀ (old : Nat), old < n + m → ∀ (row : Option Nat),
      (w.drew.alloc (.cells (xs.toArray ++ Builtin.zeroCells (Value.int .u8 0).cells m ++ Builtin.zeroCells (Value.int .u8 0).cells (grownCap w (n + m) old e - (n + m))) e)).ownsRow base e 1
        (.slice (some ⟨w.heap.size, 0, none⟩) (n + m) (grownCap w (n + m) old e)) (n + m) (xs ++ List.replicate m (.int .u8 0)) ∧
      w.grownBy (w.drew.alloc (.cells (xs.toArray ++ Builtin.zeroCells (Value.int .u8 0).cells m ++ Builtin.zeroCells (Value.int .u8 0).cells (grownCap w (n + m) old e - (n + m))) e)) row := by
    intro old ho row
    have hge := grownCap_ge w (n + m) old e
    have hcm : grownCap w (n + m) old e ≤ maxLen := grownCap_le_maxLen w (n + m) old e hmax
    refine ⟨⟨hlen, .inr ⟨w.heap.size, _, _, rfl, hbase, heap_alloc_new w.drew _, hge, hcm, ?_, ?_⟩⟩, ⟨rfl, rfl, rfl, by simp, fun k hk _ => Below.heap_alloc w.drew _ k hk⟩⟩
    · simp only [Array.size_append, List.size_toArray, zeroCells_eq, List.length_replicate, hown.1]
      omega
    · simp only [Array.toList_append, zeroCells_eq]
      rw [← hlen]
      exact List.take_left
  rcases hown.2 with ⟨rfl, rfl⟩ | ⟨g, cap, cur, rfl, hbg, hg, hnc, hcm, hcs, htake⟩
  · have hx : xs = [] := List.eq_nil_of_length_eq_zero (by simpa using hown.1)
    subst hx
    by_cases hm : m = 0
    · subst hm
      refine ⟨.slice none 0 0, w, ?_, by simpa using World.ownsRow_nil w base e 1, ⟨rfl, rfl, rfl, Nat.le_refl _, fun _ _ _ => rfl⟩⟩
      simp [Builtin.append_, run_underlying ht, run_underlying htn, sizeOf, typeInfo, hi, hby, asInt, asIntOf, hw0]
    · have hr := Lib.run_append_nil_zeros (P := P) w t tn ty e i (.int .u8 0) .i64 .i64 ht htn hi hz m (by omega) (by omega) (by omega) (by rw [hby]; omega)
      have hgr := grown 0 (by omega) (Value.ownBlock (.slice none 0 0))
      simp only [Nat.zero_add, List.nil_append, Array.empty_append] at hgr ⊢
      exact ⟨_, _, hr, hgr.1, hgr.2⟩
  · by_cases hroom : n + m ≤ cap
    · have hfit : n * 1 + (List.replicate m (Value.int .u8 0)).length ≤ cur.size := by rw [List.length_replicate, hcs]; omega
      have hst := run_storeCells_at P g (n * 1) e (List.replicate m (Value.int .u8 0)) 0 cur w hg (by simpa using hfit) (zero_one m)
      simp only [Nat.add_zero] at hst
      refine ⟨.slice (some ⟨g, 0, none⟩) (n + m) cap, (w.setRow g (cur.toList.take (n * 1) ++ List.replicate m (Value.int .u8 0) ++ cur.toList.drop (n * 1 + (List.replicate m (Value.int .u8 0)).length)).toArray), ?_, ⟨hlen, .inr ⟨g, cap, _, rfl, hbg, setRow_heap w g cur _ e _ hg, hroom, hcm, ?_, ?_⟩⟩, ⟨rfl, rfl, rfl, by simp, fun k _ hk => setRow_other w g k _ (fun e => hk (by simp [Value.ownBlock, e]))⟩⟩
      · by_cases hm : m = 0
        · subst hm
          simp only [List.replicate_zero] at hst ⊢
          simp [Builtin.append_, run_underlying ht, run_underlying htn, sizeOf, typeInfo, hi, hsize, hby, asInt, asIntOf, hw0, hnc, zeroValue, hz, Addr.add_lit]
          have hst2 := hst
          simp at hst2
          rw [hst2]
          rfl
        · have hz2 := zeroCells_eq m
          have hm1 : ¬ m * 1 = 0 := by omega
          simp [Builtin.append_, run_underlying ht, run_underlying htn, sizeOf, typeInfo, hi, hsize, hby, asInt, asIntOf, hw, hneg, h48i, hroom, hm, zeroValue, hz, hz2, Addr.add_lit]
          have hst2 := hst
          simp at hst2
          rw [hst2]
          rfl
      · simp only [List.size_toArray, List.length_append, List.length_take, List.length_drop, Array.length_toList]
        omega
      · rw [htake, ← hlen]
        exact List.take_left
    · have holds : ∀ j u, xs[j]? = some u → w.cell? ((⟨g, 0, none⟩ : Addr).add j) = some u := hown.cells (g := g) rfl
      have hold : (Builtin.firstCells i.size n (.slice (some ⟨g, 0, none⟩) n cap)).run P w.drew = .ok xs.toArray w.drew := by
        rw [hsize]
        exact run_firstCells_some (P := P) w.drew 1 n ⟨g, 0, none⟩ n cap xs hown.1 holds
      have hr := Lib.run_append_grow_zeros (P := P) w t tn ty e i (.int .u8 0) .i64 .i64 ht htn hi hz (some ⟨g, 0, none⟩) n cap xs hold m (by omega) (by omega) (by omega) (by omega) (by rw [hby]; omega) (growslice_fits (by omega) (by rw [hby]; omega))
      have hgr := grown cap (by omega) (Value.ownBlock (.slice (some ⟨g, 0, none⟩) n cap))
      exact ⟨_, _, hr, hgr.1, hgr.2⟩
theorem wpList_append_noughts {P : Program} {w : World} {ops : Array Oper} {rest : List Oper} {o : Oper} {a : Act} {Q : Exit → Act → World → Prop} (hgd : o.guard = none) (s x : Operand) (t tn : TypeId)
    (ho : o.op = .call { callee := .builtin .append, args := #[s, x], argTypes := #[t, tn] })
    (base : Nat) (e : TypeId) (i : TypeInfo) (ht : P.underlying t = some (.slice e)) (htn : P.underlying tn = some (.int .i64)) (hi : P.info? e = some i) (hz : i.zero = some (.int .u8 0)) (hsize : i.size = 1) (hby : i.bytes = 1)
    (v : Value) (n : Nat) (xs : List Value) (hs : a.eval s = v) (hown : w.ownsRow base e 1 v n xs) (m : Nat) (hx : a.eval x = .int .i64 (m : Int)) (h63 : n + m ≤ 140737488355328) (hbase : base ≤ w.heap.size)
    (h : ∀ v' w', w'.ownsRow base e 1 v' (n + m) (xs ++ List.replicate m (.int .u8 0)) → w.grownBy w' v.ownBlock → wpList P ops Q rest (a.put o.dst v') w') : wpList P ops Q (o :: rest) a w := by
  obtain ⟨v', w', hr, h2, h3⟩ := run_append_own_zeros (P := P) w base t tn o.type e i ht htn hi hz hsize hby v n xs hown m h63 hbase
  exact Lib.wpList_append_run w hgd s x t tn ho _ _ hs hx v' w' hr (h v' w' h2 h3)

/-- append to bytes that have no room: a new row -/
theorem wpList_append_new {P : Program} {w : World} {ops : Array Oper} {rest : List Oper} {o : Oper} {a : Act} {Q : Exit → Act → World → Prop} (hgd : o.guard = none) (s x : Operand) (t : TypeId)
    (ho : o.op = .call { callee := .builtin .append, args := #[s, x], argTypes := #[t, t] })
    (i : TypeInfo) (z : Value) (ht : P.underlying t = some (.slice 5)) (hi : P.info? 5 = some i) (hz : i.zero = some z) (hsize : i.size = 1) (hby : i.bytes = 1) (hzs : z = .int .u8 0)
    (g n : Nat) (l0 : List UInt8) (B0 : Nat) (hs : a.eval s = .slice (some ⟨g, 0, none⟩) n n) (h0 : Bs w B0 (some ⟨g, 0, none⟩) l0) (hn : l0.length = n) (hn0 : 0 < n)
    (ad : Addr) (m c : Nat) (l : List UInt8) (hx : a.eval x = .slice (some ad) m c) (hl : l.length = m) (B : Nat) (hr : Bs w B (some ad) l) (hm0 : 0 < m)
    (h63 : n + m ≤ 1000000)
    (h : ∀ v' w', Own w' w.heap.size v' (l0 ++ l) → Below w.heap.size w w' → wpList P ops Q rest (a.put o.dst v') w') : wpList P ops Q (o :: rest) a w := by
  have hcells : ∀ {A : Addr} {B : Nat} {l : List UInt8}, 0 < l.length → Bs w B (some A) l → ∀ j u, (bv l)[j]? = some u → w.cell? (A.add j) = some u := fun {A B l} h1 h2 j u hu => by
    have hj : j < l.length := by simpa [bv_length] using (List.getElem?_eq_some_iff.1 hu).1
    obtain ⟨b, o, e, _, hc⟩ := h2 h1
    obtain rfl := Option.some.inj e
    rw [Addr.add_lit, hc j hj, ← hu]
    simp [bv, hj]
  have hrun := run_append_grow (P := P) (w := w) t o.type 5 i z ht hi hz ⟨g, 0, none⟩ n n (bv l0) (by rw [bv_length, hn, hsize, Nat.mul_one]) (hcells (by omega) h0) ad m c (bv l) (by rw [bv_length, hl, hsize, Nat.mul_one]) (hcells (by omega) hr) (by omega) (by omega) (growslice_fits (by omega) (by rw [hby]; omega))
  refine Lib.wpList_append_run w hgd s x t t ho _ _ hs hx _ _ hrun (h _ _ ?_ (((Below.refl _ _).drew).alloc (Nat.le_refl _) _))
  have hge := grownCap_ge w (n + m) n 5
  have hcm : grownCap w (n + m) n 5 ≤ maxLen := grownCap_le_maxLen w (n + m) n 5 (by unfold maxLen; omega)
  unfold Own
  rw [List.length_append, hn, hl]
  refine ⟨by rw [bv_length, List.length_append, hn, hl, Nat.mul_one], .inr ⟨w.heap.size, _, _, rfl, Nat.le_refl _, heap_alloc_new w.drew _, hge, hcm, ?_, ?_⟩⟩
  · subst hzs
    simp only [Array.size_append, List.size_toArray, zeroCells_eq, List.length_replicate, bv_length, hn, hl]
    omega
  · subst hzs
    simp only [Array.toList_append, zeroCells_eq, Nat.mul_one]
    rw [bv_append, show n + m = (bv l0 ++ bv l).length from by rw [List.length_append, bv_length, bv_length, hn, hl]]
    exact List.take_left
theorem bs_range {w : World} {b o : Nat} {l : List UInt8} (hc : ∀ i, i < l.length → w.cell? ⟨b, o + i, none⟩ = some (.int .u8 ((l.getD i 0).toNat : Int))) : w.rangeAt b o (bv l) := fun j u hu => by
  have hj : j < l.length := by simpa [bv_length] using (List.getElem?_eq_some_iff.1 hu).1
  rw [hc j hj, ← hu]
  simp [bv, hj]
set_option maxHeartbeats 4000000 in
theorem rhead_any (t n : Nat) (w : World) (ht : t < 4294967296) (hn : n ≤ 1000) : Calls Try.prog 52 #[.int .u32 (t : Int), .int .i64 (n : Int)] w fun e w' => e = .returned (blk (headB t n)) ∧ Below w.heap.size w w' := by
  obtain ⟨i0, hi0, hz0, hz1, hz2⟩ := info_parts info5
  have hu1 : IntKind.u64.wrap (t : Int) = (t : Int) := by rw [IntKind.wrap_u64]; omega
  have hu2 : IntKind.u64.wrap (n : Int) = (n : Int) := by rw [IntKind.wrap_u64]; omega
  go_enter Try.func52, Try.ntmps52
  go_upto_region 1 with fail
  have hr1 : Row (w.alloc (.cells (bv nought).toArray 89)) w.heap.size 89 (bv nought) := Row.new w _ _
  have hb1 : Below w.heap.size w (w.alloc (.cells (bv nought).toArray 89)) := (Below.refl _ _).alloc (Nat.le_refl _) _
  change Code.wp _ _ _ _ (w.alloc (.cells (bv nought).toArray 89))
  generalize w.alloc (.cells (bv nought).toArray 89) = w1 at hr1 hb1 ⊢
  obtain ⟨b1, hb1e⟩ : ∃ b, b = w.heap.size := ⟨_, rfl⟩
  rw [← hb1e] at hr1 ⊢
  have HR1 := Lib.hid hr1
  have HB1 := Lib.hid hb1
  have HBE := Lib.hid hb1e
  have hcv0 := Lib.run_convert_bytes_const (P := Try.prog) w1 37 5 (bv magic).toArray 8 8 Try.underlying37 Try.underlying5
  obtain ⟨w2, hw2⟩ : ∃ w2, w1.alloc (.cells (bv magic).toArray 5 ((bv magic).toArray.size, (bv magic).toArray.size + 1)) = w2 := ⟨_, rfl⟩
  have r2 : Bs w2 w2.heap.size (some ⟨w1.heap.size, 0, none⟩) magic := by
    rw [← hw2, World.size_alloc]
    exact Wl.lit_bs2 w1 magic 5 ((bv magic).toArray.size, (bv magic).toArray.size + 1)
  have hb2 : Below w1.heap.size w1 w2 := by
    rw [← hw2]
    exact (Below.refl _ _).alloc (Nat.le_refl _) _
  have hcv : (convert 37 37 (.slice (some ⟨w1.heap.size, 0, none⟩) 8 8)).run Try.prog (w1.alloc (.cells #[.int .u8 103, .int .u8 97, .int .u8 122, .int .u8 101, .int .u8 116, .int .u8 119, .int .u8 97, .int .u8 108] 5)) = .ok (.slice (some ⟨w1.heap.size, 0, none⟩) 8 8) w2 := by
    rw [← hw2]
    exact hcv0
  have HG2 := Lib.hid r2
  have HR2 := Lib.hid (HR1.out.below hb2 HR1.out.lt)
  have HB2 := Lib.hid (HB1.out.trans (hb2.mono HB1.out.size))
  clear hcv0 hw2 r2 hb2 hr1 hb1 hb1e
  have HGw2 := HG2
  have HRw2 := HR2
  have HBw2 := HB2
  clear HG2 HR2 HB2 HR1 HB1
  go_wp2_with fail
  refine (rhigh4 t w2).mono ?_
  rintro e w3 ⟨v_, rfl, ho_, hb_⟩
  obtain ⟨A_, n_, c_, rfl, hl_, -, -, hn_, hs_⟩ := ho_.open
  obtain rfl : n_ = 4 := by rw [← hl_, hi_length]
  obtain ⟨q_, o_, rfl, -, -⟩ := id (hs_ (by rw [hi_length]; omega))
  have HSw3 := Lib.hid hs_
  have HGw3 := Lib.hid (HGw2.out.below hb_)
  have HRw3 := Lib.hid (HRw2.out.below hb_ HRw2.out.lt)
  have HBw3 := Lib.hid (HBw2.out.trans (hb_.mono HBw2.out.size))
  clear hl_ hn_ hs_ ho_ hb_ HGw2 HRw2 HBw2
  go_wp2_with (first
    | (at_builtin; (refine wpList_append_new (o := ⟨some 11, _, _, _, _, _⟩) rfl (.tmp 7) (.tmp 10) 37 rfl i0 (.int .u8 0) Try.underlying37 hi0 hz0 hz1 hz2 rfl w1.heap.size 8 magic _ rfl HGw3.out rfl (by omega) ⟨q_, o_, none⟩ 4 c_ (hi 4 t) rfl (hi_length 4 t) _ HSw3.out (by omega) (by omega) ?_; intro v4 w4 ho4 hb4)))
  have HO4 := Lib.hid ho4
  have HRw4 := Lib.hid (HRw3.out.below hb4 HRw3.out.lt)
  have HBw4 := Lib.hid (HBw3.out.trans (hb4.mono HBw3.out.size))
  have HS34 : Hid (w.heap.size < w3.heap.size) := Lib.hid (by have := HRw3.out.lt; rw [HBE.out] at this; exact this)
  clear ho4 hb4 HGw3 HRw3 HBw3 HSw3
  have hlm : (magic ++ hi 4 t).length = 12 := by rw [List.length_append, hi_length]; rfl
  have hlm2 : (magic ++ hi 4 t ++ hi 4 n).length = 16 := by rw [List.length_append, hlm, hi_length]
  have HLM := Lib.hid hlm
  have HLM2 := Lib.hid hlm2
  clear hlm hlm2
  have HZw4 : Hid (w3.heap.size ≤ w4.heap.size) := Lib.hid (by
    obtain ⟨Ax, nx, cx, e, h1, -, -, -, hs⟩ := HO4.out.open
    obtain ⟨b, o, e2, hlt, -⟩ := hs (by rw [List.length_append, hi_length]; omega)
    subst e e2
    exact Nat.le_of_lt (Nat.lt_of_le_of_lt ((World.ownsRow.lt HO4.out b rfl).1) hlt))
  refine (rhigh4 n w4).mono ?_
  rintro e w5 ⟨v_, rfl, ho_, hb_⟩
  obtain ⟨A_, n_, c_, rfl, hl_, -, -, hn_, hs_⟩ := ho_.open
  obtain rfl : n_ = 4 := by rw [← hl_, hi_length]
  have HSw5 := Lib.hid hs_
  have HNw5 := Lib.hid hn_
  have HOw5 := Lib.hid (HO4.out.below hb_)
  have HRw5 := Lib.hid (HRw4.out.below hb_ HRw4.out.lt)
  have HBw5 := Lib.hid (HBw4.out.trans (hb_.mono HBw4.out.size))
  have HZw5 : Hid (w3.heap.size ≤ w5.heap.size) := Lib.hid (Nat.le_trans HZw4.out hb_.size)
  clear hl_ hn_ hs_ ho_ hb_ HO4 HRw4 HBw4 HZw4
  go_upto_region 3 with (first
    | (at_builtin; (refine wpList_append_bs (o := ⟨some 16, _, _, _, _, _⟩) rfl (.tmp 12) (.tmp 15) 37 rfl w3.heap.size 5 i0 (.int .u8 0) Try.underlying37 hi0 hz0 hz1 hz2 rfl v4 (magic ++ hi 4 t).length (bv (magic ++ hi 4 t)) rfl HOw5.out A_ 4 c_ (hi 4 n) rfl (hi_length 4 n) _ HSw5.out HNw5.out (by rw [HLM.out]; omega) HZw5.out ?_; intro v6 w6 ho6 hg6)))
  have HOw6 : Hid (Own w6 w3.heap.size v6 (magic ++ hi 4 t ++ hi 4 n)) := Lib.hid (by unfold Own; rw [List.length_append, bv_append]; exact ho6)
  have hbk : ∀ k, v4.ownBlock = some k → w3.heap.size ≤ k := fun k hk => (World.ownsRow.lt HOw5.out k hk).1
  have HRw6 := Lib.hid (HRw5.out.grown hg6 (fun e => by have := hbk _ e.symm; have := HS34.out; have := HBE.out; omega))
  have HBw6 := Lib.hid (HBw5.out.grown hg6 HBw5.out.size (fun k hk => by have := hbk k hk; have := HS34.out; omega))
  have HZw6 : Hid (w3.heap.size ≤ w6.heap.size) := Lib.hid (Nat.le_trans HZw5.out hg6.size)
  clear ho6 hg6 hbk HOw5 HRw5 HBw5 HZw5
  clear HSw5 HNw5
  go_wp2_with (first
    | (at_builtin; (refine wpList_append_noughts (o := ⟨some 18, _, _, _, _, _⟩) rfl (.tmp 17) (.const (.int .i64 44)) 37 3 rfl w3.heap.size 5 i0 Try.underlying37 Try.underlying3 hi0 hz0 hz1 hz2 v6 (magic ++ hi 4 t ++ hi 4 n).length (bv (magic ++ hi 4 t ++ hi 4 n)) rfl HOw6.out 44 rfl (by rw [HLM2.out]; omega) HZw6.out ?_; intro v7 w7 ho7 hg7)))
  rw [show (List.replicate 44 (Value.int .u8 0)) = bv (List.replicate 44 0) from by simp [bv], ← bv_append, show (magic ++ hi 4 t ++ hi 4 n).length + 44 = (headF t n).length from by simp [headF, magic, hi_length]] at ho7
  have HOw7 : Hid (Own w7 w3.heap.size v7 (headF t n)) := Lib.hid ho7
  have hbk : ∀ k, v6.ownBlock = some k → w3.heap.size ≤ k := fun k hk => (World.ownsRow.lt HOw6.out k hk).1
  have HRw7 := Lib.hid (HRw6.out.grown hg7 (fun e => by have := hbk _ e.symm; have := HS34.out; have := HBE.out; omega))
  have HBw7 := Lib.hid (HBw6.out.grown hg7 HBw6.out.size (fun k hk => by have := hbk k hk; have := HS34.out; omega))
  have HZw7 : Hid (w3.heap.size ≤ w7.heap.size) := Lib.hid (Nat.le_trans HZw6.out hg7.size)
  clear ho7 hg7 hbk HOw6 HRw6 HBw6 HZw6
  obtain ⟨A7, n7, c7, hv7, hl7, -, -, hn7, hs7⟩ := HOw7.out.open
  subst hv7
  obtain rfl : n7 = 60 := by rw [← hl7, headF_len]
  go_wp2_with fail
  refine (ref32_any A7 (headF t n) c7 60 w7 hl7 (by unfold maxLen; omega) _ hs7).mono ?_
  rintro e w8 ⟨rfl, rfl⟩
  clear hl7 hn7 hs7
  obtain ⟨q, hq⟩ : ∃ q, q = Sm.sm 2197175160 4 (headF t n) := ⟨_, rfl⟩
  rw [← hq]
  have HQ := Lib.hid hq
  clear hq
  go_wp2_with fail
  refine (rhigh4 q w7).mono ?_
  rintro e w9 ⟨v_, rfl, ho_, hb_⟩
  obtain ⟨A_, n_, c_, rfl, hl_, -, -, hn_, hs_⟩ := ho_.open
  obtain rfl : n_ = 4 := by rw [← hl_, hi_length]
  have HSw9 := Lib.hid hs_
  have HNw9 := Lib.hid hn_
  have HOw9 := Lib.hid (HOw7.out.below hb_)
  have HRw9 := Lib.hid (HRw7.out.below hb_ HRw7.out.lt)
  have HBw9 := Lib.hid (HBw7.out.trans (hb_.mono HBw7.out.size))
  have HZw9 : Hid (w3.heap.size ≤ w9.heap.size) := Lib.hid (Nat.le_trans HZw7.out hb_.size)
  clear hl_ hn_ hs_ ho_ hb_ HOw7 HRw7 HBw7 HZw7
  go_upto_region 5 with (first
    | (at_builtin; (refine wpList_append_bs (o := ⟨some 23, _, _, _, _, _⟩) rfl (.tmp 19) (.tmp 22) 37 rfl w3.heap.size 5 i0 (.int .u8 0) Try.underlying37 hi0 hz0 hz1 hz2 rfl (.slice A7 60 c7) (headF t n).length (bv (headF t n)) rfl HOw9.out A_ 4 c_ (hi 4 q) rfl (hi_length 4 q) _ HSw9.out HNw9.out (by rw [headF_len]; omega) HZw9.out ?_; intro v10 w10 ho10 hg10)))
  have HOw10 : Hid (Own w10 w3.heap.size v10 (headF t n ++ hi 4 q)) := Lib.hid (by unfold Own; rw [List.length_append, bv_append]; exact ho10)
  have hbk : ∀ k, (Value.slice A7 60 c7).ownBlock = some k → w3.heap.size ≤ k := fun k hk => (World.ownsRow.lt HOw9.out k hk).1
  have HRw10 := Lib.hid (HRw9.out.grown hg10 (fun e => by have := hbk _ e.symm; have := HS34.out; have := HBE.out; omega))
  have HBw10 := Lib.hid (HBw9.out.grown hg10 HBw9.out.size (fun k hk => by have := hbk k hk; have := HS34.out; omega))
  have HZw10 : Hid (w3.heap.size ≤ w10.heap.size) := Lib.hid (Nat.le_trans HZw9.out hg10.size)
  clear ho10 hg10 hbk HOw9 HRw9 HBw9 HZw9
  clear HSw9 HNw9
  obtain ⟨A10, n10, c10, hv10, hl10, hnc10, -, hn10, hs10⟩ := HOw10.out.open
  subst hv10
  obtain rfl : n10 = 64 := by rw [← hl10, List.length_append, headF_len, hi_length]
  obtain ⟨g10, o10, rfl, hlt10, hc10⟩ := hs10 (by omega)
  have HRG : Hid (w10.rangeAt g10 o10 (bv (headF t n ++ hi 4 q))) := Lib.hid (bs_range hc10)
  have HL10 := Lib.hid hl10
  have hat : ∀ w, (Instr.arrayAt 89 (.slice (some ⟨g10, o10, none⟩) 64 c10)).run Try.prog w = .ok (.pointer (some ⟨g10, o10, none⟩)) w := fun w => run_arrayAt w _ _ 64 _ 64 c10 Try.underlying89 (Nat.le_refl _)
  have HLB : Hid ((Try.prog.info? 89).map (·.size) = some (bv (headF t n ++ hi 4 q)).length) := (show _ = _ by rw [bv_length, HL10.out]; exact size39)
  have HLL : Hid ((bv (headF t n ++ hi 4 q)).length = (bv nought).length) := (show _ = _ by rw [bv_length, bv_length, HL10.out]; rfl)
  clear hl10 hnc10 hn10 hs10 hlt10 hc10 HOw10
  go_wp2_with (first
    | (with_reducible refine Wl.wpList_load_row (op := ⟨some 26, _, _, _, _, _⟩) ?_ 89 (.tmp 25) ?_ g10 o10 ?_ (bv (headF t n ++ hi 4 q)) _ HRG.out Try.underlying89 ?_ HLB.out ?_)
    | (with_reducible refine Wl.wpList_store_whole (op := ⟨none, _, _, _, _, _⟩) ?_ 89 (.tmp 4) (.tmp 26) ?_ b1 (bv (headF t n ++ hi 4 q)) ?_ ?_ 89 (bv nought) HRw10.out HLL.out bv_one HLB.out ?_))
  all_goals try (first | rfl | (simp; done))
  intro w11 hr11 hg11
  have HRES := Lib.hid (run_load_blk (P := Try.prog) w11 b1 0 89 (headF t n ++ hi 4 q) _ (Row.all hr11) Try.underlying89 rfl (by rw [HL10.out]; exact size39))
  have HB11 := Lib.hid (HBw10.out.grown hg11 HBw10.out.size (fun j hj => by cases hj; have := HBE.out; omega))
  clear hr11 hg11
  go_wp2
  refine bodyPost_ret (v := blk (headF t n ++ hi 4 q)) (results_cell (p := 4) (ty := 89) rfl _ _ ⟨b1, 0, none⟩ _ rfl HRES.out) rfl ⟨?_, HB11.out⟩
  rw [HQ.out]
  rfl
end Go.Proofs.Yteemdjamgbbjhaa.Wr

/-
  The reference of wal: noughts, write: sectors written one by one, and a sync.
-/
namespace Go.Proofs.Yteemdjamgbbjhaa.Wr
set_option maxRecDepth 100000
open Go.RowKit Go.Shelf Go.Lib Go.Proofs.Yteemdjamgbbjhaa.Wd Go.Proofs.Yteemdjamgbbjhaa.Dsk Go.Proofs.Yteemdjamgbbjhaa.Oct Go.Proofs.Yteemdjamgbbjhaa.Sum Go.Proofs.Yteemdjamgbbjhaa.Beq Go.Proofs.Yteemdjamgbbjhaa.Wl

theorem goes_trans {F : Nat → Prop} {w w1 w2 : World} {g : Nat} {d2 : DM} {F1 : Nat → Prop} (hx : Ext F F1 w w1) (ho : Off F w w1) (h : Goes F1 w1 g d2 w2) : Goes F w g d2 w2 := by
  obtain ⟨F2, h1, h2, h3⟩ := h
  refine ⟨F2, h1, fun k hk => ?_, ho.trans hx h3⟩
  have hs := ho.size
  have hs2 := h3.size
  rcases h2 k hk with h | h
  · rcases hx k h with h | h
    · exact .inl h
    · exact .inr ⟨h.1, by omega⟩
  · exact .inr ⟨by omega, h.2⟩
theorem off_then_below {F : Nat → Prop} {w w1 w2 : World} (ho : Off F w w1) (hb : Below w1.heap.size w1 w2) : Off F w w2 :=
  ⟨hb.os.trans ho.os, hb.tape.trans ho.tape, hb.output.trans ho.output, Nat.le_trans ho.size hb.size, fun k hk hf => (hb.block k (Nat.lt_of_lt_of_le hk ho.size)).trans (ho.block k hk hf)⟩
theorem ext_then_below {F F1 : Nat → Prop} {w w1 w2 : World} (hx : Ext F F1 w w1) (hs : w1.heap.size ≤ w2.heap.size) : Ext F F1 w w2 := fun k hk => (hx k hk).imp id (fun h => ⟨h.1, Nat.lt_of_lt_of_le h.2 hs⟩)
theorem layW_pend (f : Int) : ∀ (L : List (Int × List UInt8)) (d : DM), (layW L f d).1.pend.length ≤ d.pend.length + L.length
  | [], d => Nat.le_refl _
  | p :: ps, d => by
    have h1 := write_pend d (f + p.1) p.2
    have h2 := layW_pend f ps (d.writeM (f + p.1) p.2).1
    show (if _ then _ else _ : DM × Int).1.pend.length ≤ _
    split <;> simp only [List.length_cons] <;> omega
/-- the model at the round's end -/
theorem lay_step {L : List (Int × List UInt8)} {f : Int} {d : DM} {k : Nat} {p : Int × List UInt8} (hp : L[k]? = some p) (h0 : (layW (L.take k) f d).2 = 0) : layW (L.take (k + 1)) f d = (layW (L.take k) f d).1.writeM (f + p.1) p.2 := by
  obtain ⟨hk, rfl⟩ := List.getElem?_eq_some_iff.1 hp
  rw [List.take_succ_eq_append_getElem hk, layW_snoc _ _ _ _ h0]
theorem lay_stop {L : List (Int × List UInt8)} {f : Int} {d : DM} {k : Nat} (h : (layW (L.take k) f d).2 ≠ 0) : layM L f d = layW (L.take k) f d := by
  have e : layW L f d = layW (L.take k) f d := by
    conv => lhs; rw [← List.take_append_drop k L]
    exact layW_pre _ _ _ _ h
  unfold layM
  rw [if_pos (by rw [e]; exact h), e]
theorem lay_all {L : List (Int × List UInt8)} {f : Int} {d : DM} (h : (layW L f d).2 = 0) : layM L f d = (layW L f d).1.syncM := by
  unfold layM
  rw [if_neg (by rw [h]; simp)]
set_option maxHeartbeats 4000000 in
theorem noughts_any (xs : List Int) (A : Option Addr) (n c g : Nat) (d : DM) (F : Nat → Prop) (w : World) (h : Disk w F g d) (hn : xs.length = n) (hA : 0 < n → ∃ b o, A = some ⟨b, o, none⟩ ∧ b < w.heap.size ∧ ¬ F b ∧ ∀ k x, xs[k]? = some x → w.cell? ⟨b, o + k, none⟩ = some (.int .i64 x)) (hp : d.pend.length + n ≤ 900000) :
    Calls Try.prog 49 #[.pointer (some ⟨g, 0, none⟩), .slice A n c] w fun e w' => e = .returned (.int .i64 (layM (xs.map fun i => (i, nought)) 0 d).2) ∧ Goes F w g (layM (xs.map fun i => (i, nought)) 0 d).1 w' := by
  obtain ⟨L, hL⟩ : ∃ L : List (Int × List UInt8), L = xs.map fun i => (i, nought) := ⟨_, rfl⟩
  have HL := Lib.hid hL
  rw [← hL]
  obtain ⟨z, hz⟩ : ∃ z, z = layM L 0 d := ⟨_, rfl⟩
  have HZ := Lib.hid hz
  rw [← hz]
  have HLL : Hid (L.length = n) := Lib.hid (by rw [hL, List.length_map, hn])
  have HN := Lib.hid hn
  have HA := Lib.hid hA
  have HP := Lib.hid hp
  have HG0 : Hid ((layW (L.take 0) 0 d).2 = 0 ∧ Goes F w g (layW (L.take 0) 0 d).1 w) := Lib.hid ⟨rfl, F, h, Ext.refl _ _ _, Off.refl _ _⟩
  have hn9 : n ≤ 900000 := by omega
  clear hL hz hn hA hp h
  go_enter Try.func49, Try.ntmps49
  go_wp2_with fail
  go_loopw [10] (fun i wr => ∃ k : Nat, k ≤ n ∧ i = .int .i64 (k : Int) ∧ Hid ((layW (L.take k) 0 d).2 = 0 ∧ Goes F w g (layW (L.take k) 0 d).1 wr)) (fun i _ => n - (intOf i).toNat)
  case atStart => exact ⟨0, by omega, rfl, HG0⟩
  case round =>
    obtain ⟨k, hk, rfl, HG⟩ := hrel
    clear HG0
    obtain ⟨h0, F1, hd1, hx1, ho1⟩ := HG.out
    by_cases hlt : k < n
    case neg =>
      have h1 : ¬ (k : Int) < (n : Int) := by omega
      rw [List.take_of_length_le (by rw [HLL.out]; omega)] at h0 hd1
      have HS := Lib.hid (sync_any g _ F1 wr hd1)
      have HXO := Lib.hid (And.intro hx1 ho1)
      have HLA := Lib.hid (lay_all h0)
      rw [← HLA.out, ← HZ.out] at HS
      clear h0 hd1 hx1 ho1 HG
      go_wp2_with fail
      refine HS.out.mono ?_
      rintro e w2 ⟨rfl, hg2⟩
      have HG2 := Lib.hid (goes_trans HXO.out.1 HXO.out.2 hg2)
      clear hg2 HS HXO
      go_wp2
      go_ret
      exact ⟨rfl, HG2.out⟩
    have h1 : (k : Int) < (n : Int) := by omega
    obtain ⟨x, hx⟩ : ∃ x, xs[k]? = some x := ⟨_, List.getElem?_eq_getElem (by rw [HN.out]; exact hlt)⟩
    obtain ⟨b, o, rfl, hblt, hbf, hc⟩ := HA.out (by omega)
    have hLk : L[k]? = some (x, nought) := by rw [HL.out, List.getElem?_map, hx]; rfl
    have c0 : wr.cell? ⟨b, o + k, none⟩ = some (.int .i64 x) := ho1.cell hbf (hc k x hx)
    have hst := lay_step (f := 0) (d := d) hLk h0
    have hpe := layW_pend 0 (L.take k) d
    rw [List.length_take] at hpe
    have HW := Lib.hid (write_any g _ F1 x nought wr hd1 rfl (by have := HP.out; rw [HLL.out] at hpe; omega))
    rw [Int.zero_add] at hst
    rw [← hst] at HW
    have HXO := Lib.hid (And.intro hx1 ho1)
    clear h0 hd1 hx1 ho1 hblt hbf hc hx hLk hst hpe HG
    obtain ⟨E, hE⟩ : ∃ E, E = (layW (L.take (k + 1)) 0 d).2 := ⟨_, rfl⟩
    rw [← hE] at HW
    have HE := Lib.hid hE
    clear hE
    go_wp2_with fail
    refine HW.out.mono ?_
    rintro e w2 ⟨rfl, hg2⟩
    have HG2 := Lib.hid (goes_trans HXO.out.1 HXO.out.2 hg2)
    clear hg2 HW HXO c0
    by_cases he : E = 0
    · have heb : (E != 0) = false := by simp [he]
      have HGN : Hid ((layW (L.take (k + 1)) 0 d).2 = 0 ∧ Goes F w g (layW (L.take (k + 1)) 0 d).1 w2) := Lib.hid ⟨by rw [← HE.out]; exact he, HG2.out⟩
      clear HG2 HE
      subst he
      go_wp2_with fail
      go_roundw
      case rel => exact ⟨k + 1, by omega, by go_num, HGN⟩
      case measure => simp [intOf]; omega
    · have heb : (E != 0) = true := by simp [he]
      have HST := Lib.hid (lay_stop (L := L) (f := 0) (d := d) (k := k + 1) (by rw [← HE.out]; exact he))
      have HG3 : Hid (Goes F w g z.1 w2) := Lib.hid (by rw [HZ.out, HST.out]; exact HG2.out)
      have HE3 : Hid (z.2 = E) := Lib.hid (by rw [HZ.out, HST.out]; exact HE.out.symm)
      clear HG2 HE HST he
      go_wp2
      go_ret
      exact ⟨by rw [HE3.out]; rfl, HG3.out⟩
set_option maxHeartbeats 4000000 in
theorem rwrite_any (ls : List (List UInt8)) (at_ : Nat) (A : Option Addr) (n c g : Nat) (d : DM) (F : Nat → Prop) (w : World) (h : Disk w F g d) (hn : ls.length = n) (h64 : ∀ l ∈ ls, l.length = 64) (hat : at_ ≤ 1000000) (hA : 0 < n → ∃ b o, A = some ⟨b, o, none⟩ ∧ b < w.heap.size ∧ ¬ F b ∧ ∀ k l, ls[k]? = some l → w.rangeAt b (o + k * 64) (bv l)) (hp : d.pend.length + n ≤ 900000) :
    Calls Try.prog 50 #[.pointer (some ⟨g, 0, none⟩), .int .i64 (at_ : Int), .slice A n c] w fun e w' => e = .returned (.int .i64 (layM (ls.zipIdx.map fun (p : List UInt8 × Nat) => ((p.2 : Int), p.1)) (at_ : Int) d).2) ∧ Goes F w g (layM (ls.zipIdx.map fun (p : List UInt8 × Nat) => ((p.2 : Int), p.1)) (at_ : Int) d).1 w' := by
  obtain ⟨L, hL⟩ : ∃ L : List (Int × List UInt8), L = ls.zipIdx.map fun (p : List UInt8 × Nat) => ((p.2 : Int), p.1) := ⟨_, rfl⟩
  have HL := Lib.hid hL
  rw [← hL]
  obtain ⟨z, hz⟩ : ∃ z, z = layM L (at_ : Int) d := ⟨_, rfl⟩
  have HZ := Lib.hid hz
  rw [← hz]
  have HLL : Hid (L.length = n) := Lib.hid (by rw [hL, List.length_map, List.length_zipIdx, hn])
  have HN := Lib.hid hn
  have HA := Lib.hid hA
  have H64 := Lib.hid h64
  have HP := Lib.hid hp
  have HG0 : Hid ((layW (L.take 0) (at_ : Int) d).2 = 0 ∧ Goes F w g (layW (L.take 0) (at_ : Int) d).1 w) := Lib.hid ⟨rfl, F, h, Ext.refl _ _ _, Off.refl _ _⟩
  have hn9 : n ≤ 900000 := by omega
  clear hL hz hn hA hp h h64
  go_enter Try.func50, Try.ntmps50
  go_wp2_with fail
  go_loopw [12] (fun i wr => ∃ k : Nat, k ≤ n ∧ i = .int .i64 (k : Int) ∧ Hid ((layW (L.take k) (at_ : Int) d).2 = 0 ∧ Goes F w g (layW (L.take k) (at_ : Int) d).1 wr)) (fun i _ => n - (intOf i).toNat)
  case atStart => exact ⟨0, by omega, rfl, HG0⟩
  case round =>
    obtain ⟨k, hk, rfl, HG⟩ := hrel
    clear HG0
    obtain ⟨h0, F1, hd1, hx1, ho1⟩ := HG.out
    by_cases hlt : k < n
    case neg =>
      have h1 : ¬ (k : Int) < (n : Int) := by omega
      rw [List.take_of_length_le (by rw [HLL.out]; omega)] at h0 hd1
      have HS := Lib.hid (sync_any g _ F1 wr hd1)
      have HXO := Lib.hid (And.intro hx1 ho1)
      have HLA := Lib.hid (lay_all h0)
      rw [← HLA.out, ← HZ.out] at HS
      clear h0 hd1 hx1 ho1 HG
      go_wp2_with fail
      refine HS.out.mono ?_
      rintro e w2 ⟨rfl, hg2⟩
      have HG2 := Lib.hid (goes_trans HXO.out.1 HXO.out.2 hg2)
      clear hg2 HS HXO
      go_wp2
      go_ret
      exact ⟨rfl, HG2.out⟩
    have h1 : (k : Int) < (n : Int) := by omega
    obtain ⟨x, hx⟩ : ∃ x, ls[k]? = some x := ⟨_, List.getElem?_eq_getElem (by rw [HN.out]; exact hlt)⟩
    obtain ⟨b, o, rfl, hblt, hbf, hc⟩ := HA.out (by omega)
    have hLk : L[k]? = some ((k : Int), x) := by rw [HL.out, List.getElem?_map, List.getElem?_zipIdx, hx]; simp
    have HRA : Hid (wr.rangeAt b (o + k * 64) (bv x)) := Lib.hid (ho1.range hbf (hc k x hx))
    have HXL : Hid (x.length = 64) := Lib.hid (H64.out x (List.mem_of_getElem? hx))
    have hst := lay_step (f := (at_ : Int)) (d := d) hLk h0
    have hpe := layW_pend (at_ : Int) (L.take k) d
    rw [List.length_take] at hpe
    have HW := Lib.hid (fun (W : World) (hb : Below wr.heap.size wr W) => write_any g _ F1 ((at_ : Int) + (k : Int)) x W (hd1.below hb) HXL.out (by have := HP.out; rw [HLL.out] at hpe; omega))
    dsimp only at hst
    simp only [← hst] at HW
    have HXO := Lib.hid (And.intro hx1 ho1)
    clear h0 hd1 hx1 ho1 hblt hbf hc hx hLk hst hpe HG
    obtain ⟨E, hE⟩ : ∃ E, E = (layW (L.take (k + 1)) (at_ : Int) d).2 := ⟨_, rfl⟩
    simp only [← hE] at HW
    have HE := Lib.hid hE
    clear hE
    have hwk : wrap64 ((at_ : Int) + (k : Int)) = (at_ : Int) + (k : Int) := by unfold wrap64; omega
    have HLB : Hid ((Try.prog.info? 89).map (·.size) = some (bv x).length) := (show _ = _ by rw [bv_length, HXL.out]; exact size39)
    have HLL2 : Hid ((bv x).length = (bv nought).length) := (show _ = _ by rw [bv_length, bv_length, HXL.out]; rfl)
    go_wp2_with (first
      | (with_reducible refine Wl.wpList_load_row (op := ⟨some 16, _, _, _, _, _⟩) ?_ 89 (.tmp 15) ?_ b (o + k * 64) ?_ (bv x) _ HRA.out Try.underlying89 ?_ HLB.out ?_)
      | (with_reducible refine Wl.wpList_store_whole (op := ⟨none, _, _, _, _, _⟩) ?_ 89 (.tmp 8) (.tmp 16) ?_ wr.heap.size (bv x) ?_ ?_ 89 (bv nought) ?hrow HLL2.out bv_one HLB.out ?_))
    case hrow => exact Row.new wr _ (bv nought)
    all_goals try (first | rfl | (simp; done))
    intro w1 hr1 hg1
    have hb1 : Below wr.heap.size wr w1 := ((Below.refl _ _).alloc (Nat.le_refl _) _).grown hg1 (by simp) (fun q hq => by cases hq; exact Nat.le_refl _)
    have HR1 := Lib.hid hr1
    have HXO1 := Lib.hid (And.intro (ext_then_below HXO.out.1 hb1.size) (off_then_below HXO.out.2 hb1))
    have HW1 := Lib.hid (HW.out w1 hb1)
    clear hr1 hg1 hb1 HW HXO HRA
    go_wp2_with (first
      | (with_reducible refine Wl.wpList_load_row (op := ⟨some 21, _, _, _, _, _⟩) ?_ 89 (.tmp 8) ?_ wr.heap.size 0 ?_ (bv x) _ (Row.all HR1.out) Try.underlying89 ?_ HLB.out ?_))
    all_goals try (first | rfl | (simp; done))
    go_wp2_with fail
    refine HW1.out.mono ?_
    rintro e w2 ⟨rfl, hg2⟩
    have HG2 := Lib.hid (goes_trans HXO1.out.1 HXO1.out.2 hg2)
    clear hg2 HW1 HXO1 HR1
    by_cases he : E = 0
    · have heb : (E != 0) = false := by simp [he]
      have HGN : Hid ((layW (L.take (k + 1)) (at_ : Int) d).2 = 0 ∧ Goes F w g (layW (L.take (k + 1)) (at_ : Int) d).1 w2) := Lib.hid ⟨by rw [← HE.out]; exact he, HG2.out⟩
      clear HG2 HE
      subst he
      go_wp2_with fail
      go_roundw
      case rel => exact ⟨k + 1, by omega, by go_num, HGN⟩
      case measure => simp [intOf]; omega
    · have heb : (E != 0) = true := by simp [he]
      have HST := Lib.hid (lay_stop (L := L) (f := (at_ : Int)) (d := d) (k := k + 1) (by rw [← HE.out]; exact he))
      have HG3 : Hid (Goes F w g z.1 w2) := Lib.hid (by rw [HZ.out, HST.out]; exact HG2.out)
      have HE3 : Hid (z.2 = E) := Lib.hid (by rw [HZ.out, HST.out]; exact HE.out.symm)
      clear HG2 HE HST he
      go_wp2
      go_ret
      exact ⟨by rw [HE3.out]; rfl, HG3.out⟩
end Go.Proofs.Yteemdjamgbbjhaa.Wr

/-
  The reference of wal: the sectors of a frame.
-/
namespace Go.Proofs.Yteemdjamgbbjhaa.Wr
set_option maxRecDepth 100000
open Go.RowKit Go.Shelf Go.Lib Go.Proofs.Yteemdjamgbbjhaa.Wd Go.Proofs.Yteemdjamgbbjhaa.Dsk Go.Proofs.Yteemdjamgbbjhaa.Oct Go.Proofs.Yteemdjamgbbjhaa.Sum Go.Proofs.Yteemdjamgbbjhaa.Beq Go.Proofs.Yteemdjamgbbjhaa.Wl

def lenOf : Value → Nat
  | .slice _ l _ => l
  | _ => 0
def padB (b : List UInt8) (j : Nat) : List UInt8 := allB b ++ List.replicate j 0
theorem allB_len (b : List UInt8) : (allB b).length = 4 + b.length := by simp [allB, hi_length]
theorem padB_len (b : List UInt8) (j : Nat) : (padB b j).length = 4 + b.length + j := by unfold padB; rw [List.length_append, allB_len, List.length_replicate]
theorem padB_snoc (b : List UInt8) (j : Nat) : padB b j ++ [0] = padB b (j + 1) := by
  unfold padB
  rw [List.append_assoc, ← List.replicate_succ']
/-- a part's bytes are 48 of all -/
theorem body_pad (b : List UInt8) (i j : Nat) (h : 4 + b.length + j = 48 * sects b.length) (hi : i < sects b.length) : ((padB b j).drop (48 * i)).take 48 = bodyB (allB b) i := by
  unfold bodyB fill48 padB
  have hs : sects b.length = (4 + b.length + 47) / 48 := rfl
  have hl := allB_len b
  rw [List.drop_append, List.take_append, List.drop_replicate, List.take_replicate, List.length_drop, hl]
  congr 1
  congr 1
  omega
theorem Own.belowB {w w' : World} {base B : Nat} {v : Value} {l : List UInt8} (h : Own w base v l) (hk : ∀ k, v.ownBlock = some k → k < B) (hb : Below B w w') : Own w' base v l := by
  rcases h with ⟨h1, h2 | ⟨g, cap, cur, e, hg, h3, h4⟩⟩
  · exact ⟨h1, .inl h2⟩
  · exact ⟨h1, .inr ⟨g, cap, cur, e, hg, (hb.block g (hk g (by rw [e]; rfl))).trans h3, h4⟩⟩
theorem own_lt {w : World} {base : Nat} {v : Value} {l : List UInt8} (h : Own w base v l) : ∀ k, v.ownBlock = some k → base ≤ k ∧ k < w.heap.size := fun k hk => World.ownsRow.lt h k hk
theorem wpList_build1 {P : Program} {ops : Array Oper} {rest : List Oper} {o : Oper} {a : Act} {w : World} {Q : Exit → Act → World → Prop} (hgd : Region.wanted o (yielded ops a.tmps) = true) (t e : TypeId) (x : Operand) (ho : o.op = .buildSlice t 1 #[(0, x)])
    (vs zs : List Value) (ie : TypeInfo) (hx : a.eval x = .agg vs.toArray) (hu : P.underlying t = some (.slice e)) (hie : P.info? e = some ie) (hz : ie.zero = some (.agg zs.toArray)) (hs : ie.size = zs.length) (hl : vs.length = zs.length) (hpos : 0 < zs.length) (hn : zs.length ≤ 1000)
    (h : wpList P ops Q rest (a.put o.dst (.slice (some ⟨w.heap.size, 0, none⟩) 1 1)) (w.alloc (.cells vs.toArray e))) : wpList P ops Q (o :: rest) a w :=
  wpList_wanted hgd fun _ hK => wp_buildOne t e x ho vs zs ie hx hu hie hz hs hl hpos hn (hK _ _ h)
/-- append of elements of k cells, none or some, to a row of the call's own -/
theorem wpList_append_k {P : Program} {w : World} {ops : Array Oper} {rest : List Oper} {o : Oper} {a : Act} {Q : Exit → Act → World → Prop} (hgd : o.guard = none) (s x : Operand) (t : TypeId)
    (ho : o.op = .call { callee := .builtin .append, args := #[s, x], argTypes := #[t, t] })
    (base : Nat) (e : TypeId) (i : TypeInfo) (z : Value) (size bytes : Nat) (ht : P.underlying t = some (.slice e)) (hi : P.info? e = some i) (hz : i.zero = some z) (hsize : i.size = size) (hby : i.bytes = bytes) (hzs : z.cells.size = size) (hsz : 0 < size)
    (v : Value) (n : Nat) (xs : List Value) (hs : a.eval s = v) (hown : w.ownsRow base e size v n xs)
    (A : Option Addr) (m c : Nat) (vs : List Value) (hx : a.eval x = .slice A m c) (hl : vs.length = m * size) (B : Nat) (hr : Vs w B A vs) (h1 : ∀ u ∈ vs, u.oneCell' = true) (hA : A = none → c = 0)
    (h63 : n + m ≤ maxLen) (hb : (n + m) * bytes ≤ 140737488355328) (hbase : base ≤ w.heap.size)
    (h : ∀ v' w', w'.ownsRow base e size v' (n + m) (xs ++ vs) → w.grownBy w' v.ownBlock → wpList P ops Q rest (a.put o.dst v') w') : wpList P ops Q (o :: rest) a w := by
  cases A with
  | none =>
    have h0 : m = 0 := by
      rcases Nat.eq_zero_or_pos m with h0 | h0
      · exact h0
      · obtain ⟨b, o, e, _⟩ := hr (by rw [hl]; exact Nat.mul_pos h0 hsz)
        cases e
    subst h0
    obtain rfl := hA rfl
    obtain rfl : vs = [] := List.eq_nil_of_length_eq_zero (by rw [hl, Nat.zero_mul])
    refine wpList_plain hgd fun K hK' => ?_
    have hrun := run_append_owned_none (P := P) w base t o.type e i size ht hi v n xs hown
    unfold Oper.wp
    simp [execOp, ho, resolve, invoke, builtin, hs, hx, hrun, Result.andThen]
    exact hK' _ _ (h v w (by simpa using hown) (World.grownBy.refl _ _))
  | some ad =>
    refine wpList_plain hgd fun K hK' => wp_append_own w s x t ho base e i z size bytes ht hi hz hsize hby hzs hsz v n xs hs hown ad m c vs hx hl (fun j u hu => ?_) h1 h63 hb hbase fun v' w' h2 h3 _ => hK' _ _ (h v' w' h2 h3)
    have hj : j < vs.length := (List.getElem?_eq_some_iff.1 hu).1
    obtain ⟨b, o, e, _, hc⟩ := hr (by omega)
    obtain rfl := Option.some.inj e
    rw [Addr.add_lit, hc j u hu]
theorem ownsB {w w' : World} {base B n size : Nat} {e : TypeId} {v : Value} {xs : List Value} (h : w.ownsRow base e size v n xs) (hk : ∀ k, v.ownBlock = some k → k < B) (hb : Below B w w') : w'.ownsRow base e size v n xs := by
  rcases h with ⟨h1, h2 | ⟨g, cap, cur, e, hg, h3, h4⟩⟩
  · exact ⟨h1, .inl h2⟩
  · exact ⟨h1, .inr ⟨g, cap, cur, e, hg, (hb.block g (hk g (by rw [e]; rfl))).trans h3, h4⟩⟩
theorem owns_lt {w : World} {base n size : Nat} {e : TypeId} {v : Value} {xs : List Value} (h : w.ownsRow base e size v n xs) : ∀ k, v.ownBlock = some k → base ≤ k ∧ k < w.heap.size := fun k hk => World.ownsRow.lt h k hk
theorem owns_ne {w : World} {base base' n n' size size' : Nat} {e e' : TypeId} {v v' : Value} {xs xs' : List Value} (h : w.ownsRow base e size v n xs) (h' : w.ownsRow base' e' size' v' n' xs') (he : e ≠ e') : v.ownBlock = none ∨ v.ownBlock ≠ v'.ownBlock := by
  rcases h.2 with ⟨h1, _⟩ | ⟨g, cap, cur, e1, _, h3, _⟩
  · exact .inl (by rw [h1]; rfl)
  · refine .inr (fun hh => ?_)
    rcases h'.2 with ⟨h1', _⟩ | ⟨g', cap', cur', e1', _, h3', _⟩
    · rw [e1, h1'] at hh; cases hh
    · rw [e1, e1'] at hh
      have hg : g = g' := Option.some.inj hh
      subst hg
      rw [h3] at h3'
      have := Option.some.inj h3'
      injection this with q1 q2
      exact he q2
theorem part64 {w : World} {base : Nat} {v : Value} {t k r q crc : Nat} {body : List UInt8} (h : w.ownsRow base 5 1 v ((frontB t k r q).length + 4 + 48) (bv (frontB t k r q) ++ bv (hi 4 crc) ++ bv body)) (hb : body.length = 48) :
    ∃ g o c, v = .slice (some ⟨g, o, none⟩) 64 c ∧ w.rangeAt g o (bv (frontB t k r q ++ hi 4 crc ++ body)) := by
  rw [← bv_append, ← bv_append] at h
  obtain ⟨A, c, rfl, hl, -, -, -, hs, -⟩ := own_bs h
  have hl2 : (frontB t k r q ++ hi 4 crc ++ body).length = 64 := by rw [List.length_append, List.length_append, frontB_len, hi_length, hb]
  obtain ⟨g, o, rfl, -, hc⟩ := hs (by omega)
  exact ⟨g, o, c, by rw [frontB_len], bs_range hc⟩
theorem parts_next {t k : Nat} {b : List UInt8} {r q : Nat} (hq : q = sects b.length) (hr : r < q) : ((partsM t k b).take (r + 1)).flatMap bv = ((partsM t k b).take r).flatMap bv ++ bv (frontB t k r q ++ hi 4 (Sm.sm 2197175160 4 (frontB t k r q ++ bodyB (allB b) r)) ++ bodyB (allB b) r) := by
  have hl : r < (partsM t k b).length := by rw [partsM_len, ← hq]; exact hr
  rw [List.take_succ_eq_append_getElem hl, List.flatMap_append]
  congr 1
  have : (partsM t k b)[r] = partM t k b r := by simp [partsM]
  rw [this, hq]
  simp [partM, partB, crc]
set_option maxHeartbeats 4000000 in
theorem frame_any (t k : Nat) (b : List UInt8) (A : Option Addr) (n c : Nat) (w : World) (hb : b.length = n) (hn : n ≤ 40000) (hA : A = none → c = 0) (hs : Bs w w.heap.size A b) (ht : t < 4294967296) (hk : k < 4294967296) :
    Calls Try.prog 51 #[.int .u32 (t : Int), .int .u32 (k : Int), .slice A n c] w fun e w' => ∃ v, e = .returned v ∧ w'.ownsRow w.heap.size 89 64 v (sects n) ((partsM t k b).flatMap bv) ∧ Below w.heap.size w w' := by
  obtain ⟨i0, hi0, hz0, hz1, hz2⟩ := info_parts info5
  have HI0 := Lib.hid hi0
  have HZ0 := Lib.hid hz0
  have HZ1 := Lib.hid hz1
  have HZ2 := Lib.hid hz2
  have HBL := Lib.hid hb
  have HBS := Lib.hid hs
  have hun : IntKind.u64.wrap (n : Int) = (n : Int) := by rw [IntKind.wrap_u64]; omega
  obtain ⟨q, hq⟩ : ∃ q, q = sects n := ⟨_, rfl⟩
  have HQ := Lib.hid hq
  have hq2 : q ≤ 834 := by rw [hq]; exact sects_most n hn
  have hqn : 4 + n ≤ 48 * q := by rw [hq]; unfold sects; omega
  have HSE := Lib.hid (rsectors_any n w hn)
  rw [← hq] at HSE ⊢
  clear hi0 hz0 hz1 hz2 hs hq
  go_enter Try.func51, Try.ntmps51
  go_wp2_with fail
  refine HSE.out.mono ?_
  rintro e wz ⟨rfl, hwz⟩
  subst hwz
  clear HSE
  go_wp2_with fail
  refine (rhigh4 n wz).mono ?_
  rintro e w1 ⟨v1, rfl, ho1, hb1⟩
  have HO1 := Lib.hid ho1
  have HB1 := Lib.hid hb1
  have HSB := Lib.hid (HBS.out.below hb1)
  clear ho1 hb1 hun
  go_upto_region 3 with (first
    | (at_builtin; (refine wpList_append_bs (o := ⟨some 22, _, _, _, _, _⟩) rfl (.tmp 20) (.tmp 21) 37 rfl wz.heap.size 5 i0 (.int .u8 0) Try.underlying37 HI0.out HZ0.out HZ1.out HZ2.out rfl v1 (hi 4 n).length (bv (hi 4 n)) rfl HO1.out A n c b rfl hb _ HSB.out hA (by rw [hi_length]; omega) HB1.out.size ?_; intro v2 w2 ho2 hg2)))
  have HO2 : Hid (Own w2 wz.heap.size v2 (padB b 0)) := Lib.hid (by
    have e : padB b 0 = hi 4 n ++ b := by unfold padB allB; rw [HBL.out]; simp
    rw [e]
    unfold Own
    rw [List.length_append, bv_append, HBL.out]
    exact ho2)
  have HB2 : Hid (Below wz.heap.size wz w2) := Lib.hid (HB1.out.grown hg2 HB1.out.size (fun k hk => (own_lt HO1.out k hk).1))
  clear ho2 hg2 HO1 HB1 HSB HBS
  obtain ⟨A2, n2, c2, hv2, hl2, -, -, -, -⟩ := HO2.out.open
  subst hv2
  have HM2 : Hid (n2 = 4 + n + 0) := Lib.hid (by rw [← hl2, padB_len, HBL.out])
  clear hl2
  have hwq : wrap64 (48 * (q : Int)) = 48 * (q : Int) := by unfold wrap64; omega
  have hm2 : n2 ≤ 48 * q := by have := HM2.out; omega
  go_loopw [8] (fun t8 wr => ∃ (m j : Nat) (Au : Option Addr) (cu : Nat), m ≤ 48 * q ∧ t8 = .slice Au m cu ∧ Hid (m = 4 + n + j) ∧ Hid (Own wr wz.heap.size (.slice Au m cu) (padB b j)) ∧ Hid (Below wz.heap.size wz wr)) (fun t8 _ => 48 * q - lenOf t8)
  case atStart => exact ⟨n2, 0, A2, c2, hm2, rfl, HM2, HO2, HB2⟩
  case round =>
    obtain ⟨m, j, Au, cu, hm, rfl, HM, HO, HB⟩ := hrel
    clear HO2 HB2 HM2 hm2
    by_cases hlt : m < 48 * q
    case pos =>
      have h1 : (m : Int) < 48 * (q : Int) := by omega
      have hrz : Row (wr.alloc (.cells #[.int .u8 0] 5)) wr.heap.size 5 (bv [0]) := Row.new wr _ _
      have hba : Below wr.heap.size wr (wr.alloc (.cells #[.int .u8 0] 5)) := (Below.refl _ _).alloc (Nat.le_refl _) _
      have HRZ := Lib.hid hrz
      have HOA := Lib.hid (HO.out.below hba)
      have HBA := Lib.hid (HB.out.trans (hba.mono HB.out.size))
      have HLJ : Hid ((padB b j).length = m) := Lib.hid (by rw [padB_len, HBL.out, HM.out])
      clear hrz hba HO HB
      go_wp2_with (first
        | (at_builtin; (refine wpList_append_bs (o := ⟨some 30, _, _, _, _, _⟩) rfl (.tmp 28) (.tmp 29) 37 rfl wz.heap.size 5 i0 (.int .u8 0) Try.underlying37 HI0.out HZ0.out HZ1.out HZ2.out rfl (.slice Au m cu) (padB b j).length (bv (padB b j)) rfl HOA.out (some ⟨wr.heap.size, 0, none⟩) 1 1 [0] rfl rfl (wr.heap.size + 1) (Row.bs HRZ.out (Nat.lt_succ_self _)) (fun h => by cases h) (by rw [HLJ.out]; omega) HBA.out.size ?_; intro v5 w5 ho5 hg5)))
      have HO5 : Hid (Own w5 wz.heap.size v5 (padB b (j + 1))) := Lib.hid (by
        rw [← padB_snoc]
        unfold Own
        rw [List.length_append, bv_append]
        exact ho5)
      have HB5 : Hid (Below wz.heap.size wz w5) := Lib.hid (HBA.out.grown hg5 HBA.out.size (fun k hk => (own_lt HOA.out k hk).1))
      obtain ⟨A5, n5, c5, hv5, hl5, -, -, -, -⟩ := HO5.out.open
      subst hv5
      obtain rfl : n5 = m + 1 := by rw [← hl5, padB_len, HBL.out, HM.out]; omega
      have HM5 : Hid (m + 1 = 4 + n + (j + 1)) := Lib.hid (by have := HM.out; omega)
      clear ho5 hg5 hl5 HRZ HOA HBA HLJ HM
      go_roundw
      case rel => exact ⟨m + 1, j + 1, A5, c5, by omega, rfl, HM5, HO5, HB5⟩
      case measure => simp [lenOf]; omega
    have h1 : ¬ (m : Int) < 48 * (q : Int) := by omega
    obtain rfl : m = 48 * q := by omega
    -- LOOP2
    have HP48 : Hid (4 + b.length + j = 48 * sects b.length) := Lib.hid (by rw [HBL.out, ← HQ.out]; have := HM.out; omega)
    go_wp2_with fail
    have HV0 : Hid (wr.ownsRow wz.heap.size 89 64 (.slice none 0 0) 0 (((partsM t k b).take 0).flatMap bv)) := Lib.hid ⟨rfl, .inl ⟨rfl, rfl⟩⟩
    clear HM hm hlt h1 hb hA
    go_loopw [9, 32] (fun t9 i wr => ∃ (r : Nat) (v : Value), r ≤ q ∧ i = .int .i64 (r : Int) ∧ t9 = v ∧ Hid (wr.ownsRow wz.heap.size 89 64 v r (((partsM t k b).take r).flatMap bv)) ∧ Hid (Own wr wz.heap.size (.slice Au (48 * q) cu) (padB b j)) ∧ Hid (Below wz.heap.size wz wr)) (fun _ i _ => q - (intOf i).toNat)
    case atStart => exact ⟨0, _, by omega, rfl, rfl, HV0, HO, HB⟩
    case round =>
      obtain ⟨r, v, hr, rfl, rfl, HV, HA, HBz⟩ := hrel
      clear HV0 HO HB
      by_cases hlt : r < q
      case neg =>
        have h1 : ¬ (r : Int) < (q : Int) := by omega
        obtain rfl : r = q := by omega
        have HVF := HV
        rw [List.take_of_length_le (by rw [partsM_len, HBL.out, ← HQ.out]; exact Nat.le_refl _)] at HVF
        clear HV HA
        go_wp2
        go_ret
        exact ⟨_, rfl, HVF.out, HBz.out⟩
      have h1 : (r : Int) < (q : Int) := by omega
      have hu1 : IntKind.u64.wrap (t : Int) = (t : Int) := by rw [IntKind.wrap_u64]; omega
      have hu2 : IntKind.u64.wrap (k : Int) = (k : Int) := by rw [IntKind.wrap_u64]; omega
      have hu3 : IntKind.u64.wrap (r : Int) = (r : Int) := by rw [IntKind.wrap_u64]; omega
      have hu4 : IntKind.u64.wrap (q : Int) = (q : Int) := by rw [IntKind.wrap_u64]; omega
      have BWwr : Hid (Below wr.heap.size wr wr) := Lib.hid (Below.refl _ _)
      go_wp2_with fail
      refine (rhigh4 t wr).mono ?_
      rintro e w1 ⟨v_, rfl, ho_, hb_⟩
      obtain ⟨Aa, n_, Ca, rfl, hl_, -, -, hn_, hs_⟩ := ho_.open
      obtain rfl : n_ = 4 := by rw [← hl_, hi_length]
      have HSa := Lib.hid hs_
      have HNa := Lib.hid hn_
      have HXw1 := Lib.hid hb_
      have BWw1 := Lib.hid (BWwr.out.trans (hb_.mono BWwr.out.size))
      clear hl_ hn_ hs_ hb_
      have aO := Lib.hid ho_
      clear ho_
      go_wp2_with fail
      refine (rhigh4 k w1).mono ?_
      rintro e w2 ⟨v_, rfl, ho_, hb_⟩
      obtain ⟨Ab, n_, Cb, rfl, hl_, -, -, hn_, hs_⟩ := ho_.open
      obtain rfl : n_ = 4 := by rw [← hl_, hi_length]
      have HSb := Lib.hid hs_
      have HNb := Lib.hid hn_
      have HXw2 := Lib.hid hb_
      have BWw2 := Lib.hid (BWw1.out.trans (hb_.mono BWw1.out.size))
      clear hl_ hn_ hs_ hb_
      have aO2 := Lib.hid (aO.out.below HXw2.out)
      clear ho_ aO
      go_upto_region 10 with (first
        | (at_builtin; (refine wpList_append_bs (o := ⟨some 41, _, _, _, _, _⟩) rfl (.tmp 37) (.tmp 40) 37 rfl wr.heap.size 5 i0 (.int .u8 0) Try.underlying37 HI0.out HZ0.out HZ1.out HZ2.out rfl (.slice Aa 4 Ca) (hi 4 t).length (bv (hi 4 t)) rfl aO2.out Ab 4 Cb (hi 4 k) rfl (hi_length 4 k) _ HSb.out HNb.out (by rw [hi_length]; omega) BWw2.out.size ?_; intro v3 w3 ho_ hg_)))
      have v3O : Hid (Own w3 wr.heap.size v3 (hi 4 t ++ hi 4 k)) := Lib.hid (by unfold Own; rw [List.length_append, bv_append, hi_length, hi_length]; rw [hi_length] at ho_; exact ho_)
      have BBw3 : Hid (Below wr.heap.size w2 w3) := Lib.hid (below_own hg_ (fun k hk => (own_lt aO2.out k hk).1) BWw2.out.size)
      have BWw3 : Hid (Below wr.heap.size wr w3) := Lib.hid (BWw2.out.trans (BBw3.out.mono (Nat.le_refl _)))
      clear ho_ hg_
      go_wp2_with fail
      refine (rhigh2 r w3).mono ?_
      rintro e w4 ⟨v_, rfl, ho_, hb_⟩
      obtain ⟨Ac, n_, Cc, rfl, hl_, -, -, hn_, hs_⟩ := ho_.open
      obtain rfl : n_ = 2 := by rw [← hl_, hi_length]
      have HSc := Lib.hid hs_
      have HNc := Lib.hid hn_
      have HXw4 := Lib.hid hb_
      have BWw4 := Lib.hid (BWw3.out.trans (hb_.mono BWw3.out.size))
      clear hl_ hn_ hs_ hb_
      have v3O4 := Lib.hid (v3O.out.below HXw4.out)
      clear ho_ v3O
      obtain ⟨A3, n3, C3, hv3, hl3, -, -, -, -⟩ := v3O4.out.open
      subst hv3
      obtain rfl : n3 = 8 := by rw [← hl3, List.length_append, hi_length, hi_length]
      go_wp2_with (first
        | (at_builtin; (refine wpList_append_bs (o := ⟨some 46, _, _, _, _, _⟩) rfl (.tmp 42) (.tmp 45) 37 rfl wr.heap.size 5 i0 (.int .u8 0) Try.underlying37 HI0.out HZ0.out HZ1.out HZ2.out rfl (.slice A3 8 C3) (hi 4 t ++ hi 4 k).length (bv (hi 4 t ++ hi 4 k)) rfl v3O4.out Ac 2 Cc (hi 2 r) rfl (hi_length 2 r) _ HSc.out HNc.out (by rw [hl3]; omega) BWw4.out.size ?_; intro v5 w5 ho_ hg_)))
      have v5O : Hid (Own w5 wr.heap.size v5 (hi 4 t ++ hi 4 k ++ hi 2 r)) := Lib.hid (by unfold Own; rw [List.length_append, bv_append, hi_length]; exact ho_)
      have BBw5 : Hid (Below wr.heap.size w4 w5) := Lib.hid (below_own hg_ (fun k hk => (own_lt v3O4.out k hk).1) BWw4.out.size)
      have BWw5 : Hid (Below wr.heap.size wr w5) := Lib.hid (BWw4.out.trans (BBw5.out.mono (Nat.le_refl _)))
      clear ho_ hg_
      refine (rhigh2 q w5).mono ?_
      rintro e w6 ⟨v_, rfl, ho_, hb_⟩
      obtain ⟨Ad, n_, Cd, rfl, hl_, -, -, hn_, hs_⟩ := ho_.open
      obtain rfl : n_ = 2 := by rw [← hl_, hi_length]
      have HSd := Lib.hid hs_
      have HNd := Lib.hid hn_
      have BWw6 := Lib.hid (BWw5.out.trans (hb_.mono BWw5.out.size))
      have v5O6 := Lib.hid (v5O.out.below hb_)
      clear hl_ hn_ hs_ ho_ hb_ v5O
      obtain ⟨A5, n5, C5, hv5, hl5, -, -, -, -⟩ := v5O6.out.open
      subst hv5
      obtain rfl : n5 = 10 := by rw [← hl5, List.length_append, hl3, hi_length]
      go_upto_region 11 with (first
        | (at_builtin; (refine wpList_append_bs (o := ⟨some 50, _, _, _, _, _⟩) rfl (.tmp 46) (.tmp 49) 37 rfl wr.heap.size 5 i0 (.int .u8 0) Try.underlying37 HI0.out HZ0.out HZ1.out HZ2.out rfl (.slice A5 10 C5) (hi 4 t ++ hi 4 k ++ hi 2 r).length (bv (hi 4 t ++ hi 4 k ++ hi 2 r)) rfl v5O6.out Ad 2 Cd (hi 2 q) rfl (hi_length 2 q) _ HSd.out HNd.out (by rw [hl5]; omega) BWw6.out.size ?_; intro v7 w7 ho_ hg_)))
      have v7O : Hid (Own w7 wr.heap.size v7 (hi 4 t ++ hi 4 k ++ hi 2 r ++ hi 2 q)) := Lib.hid (by unfold Own; rw [List.length_append, bv_append, hi_length]; exact ho_)
      have BBw7 : Hid (Below wr.heap.size w6 w7) := Lib.hid (below_own hg_ (fun k hk => (own_lt v5O6.out k hk).1) BWw6.out.size)
      have BWw7 : Hid (Below wr.heap.size wr w7) := Lib.hid (BWw6.out.trans (BBw7.out.mono (Nat.le_refl _)))
      clear ho_ hg_
      have F7 : Hid (Own w7 wr.heap.size v7 (frontB t k r q)) := v7O
      clear v7O v5O6 v3O4 aO2 HSa HNa HSb HNb HSc HNc HSd HNd BWw1 BWw2 BWw3 BWw4 BWw5 BWw6 BBw3 BBw5 BBw7 HXw1 HXw2 HXw4 hl3 hl5
      obtain ⟨A7, n7, C7, hv7, hl7, -, -, hn7, hs7⟩ := F7.out.open
      subst hv7
      obtain rfl : n7 = 12 := by rw [← hl7, frontB_len]
      have HS7 := Lib.hid hs7
      have HN7 := Lib.hid hn7
      clear hl7 hs7 hn7
      have hplen : (padB b j).length = 48 * q := by rw [padB_len, HP48.out, HBL.out, ← HQ.out]
      obtain ⟨Ay, ny, cy, hey, -, hqc, hcm, -, hbs⟩ := HA.out.open
      obtain ⟨ga, oa, hau, hga, hca⟩ := hbs (by omega)
      obtain ⟨rfl, rfl, rfl⟩ : Au = Ay ∧ 48 * q = ny ∧ cu = cy := by
        injection hey with e1 e2 e3
        exact ⟨e1, e2, e3⟩
      subst hau
      have HBODY : Hid (∀ W, Below wr.heap.size wr W → Bs W wr.heap.size (some ⟨ga, oa + 48 * r, none⟩) (bodyB (allB b) r)) := Lib.hid (fun W hb _ => ⟨ga, oa + 48 * r, rfl, hga, fun i hi => by
        rw [bodyB_len] at hi
        rw [hb.cell (p := ⟨ga, oa + 48 * r + i, none⟩) hga, show oa + 48 * r + i = oa + (48 * r + i) by omega, hca (48 * r + i) (by rw [hplen]; omega), ← body_pad b r j HP48.out (by rw [HBL.out, ← HQ.out]; exact hlt)]
        congr 3
        simp only [List.getD_eq_getElem?_getD, List.getElem?_take, List.getElem?_drop, if_pos hi]⟩)
      have HCU : Hid (48 * q ≤ cu ∧ cu ≤ maxLen) := Lib.hid ⟨hqc, hcm⟩
      have hr48 : 48 * r + 48 ≤ cu := by omega
      have hne48 : ¬ cu = 48 * r := by omega
      have hw1 : wrap64 (48 * (r : Int)) = 48 * (r : Int) := by unfold wrap64; omega
      have hw2 : wrap64 (48 * (r : Int) + 48) = 48 * (r : Int) + 48 := by unfold wrap64; omega
      clear hqc hcm hbs hga hca hey hplen hu1 hu2 hu3 hu4
      go_upto_region 12 with fail
      have OWN0 : Hid ((w7.alloc (.cells #[] 5)).ownsRow w7.heap.size 5 1 (.slice (some ⟨w7.heap.size, 0, none⟩) 0 0) 0 []) := Lib.hid (World.ownsRow_made w7 #[] 0 (Nat.le_refl _) (Nat.zero_le _) rfl)
      have hb8 : Below w7.heap.size w7 (w7.alloc (.cells #[] 5)) := (Below.refl _ _).alloc (Nat.le_refl _) _
      have HB8 := Lib.hid hb8
      have HS8 := Lib.hid (HS7.out.below hb8)
      clear hb8 hne48 hr48
      go_upto_region 13 with (first
        | (at_builtin; (refine wpList_append_bs (o := ⟨some 60, _, _, _, _, _⟩) rfl (.tmp 58) (.tmp 59) 37 rfl w7.heap.size 5 i0 (.int .u8 0) Try.underlying37 HI0.out HZ0.out HZ1.out HZ2.out rfl (.slice (some ⟨w7.heap.size, 0, none⟩) 0 0) 0 [] rfl OWN0.out A7 12 C7 (frontB t k r q) rfl (frontB_len _ _ _ _) _ HS8.out HN7.out (by omega) HB8.out.size ?_; intro v9 w9 ho9 hg9))
        | (at_builtin; (refine wpList_append_bs (o := ⟨some 62, _, _, _, _, _⟩) rfl (.tmp 60) (.tmp 61) 37 rfl w7.heap.size 5 i0 (.int .u8 0) Try.underlying37 HI0.out HZ0.out HZ1.out HZ2.out rfl v9 (0 + 12) ([] ++ bv (frontB t k r q)) rfl ho9 (some ⟨ga, oa + 48 * r, none⟩) 48 (cu - 48 * r) (bodyB (allB b) r) rfl (bodyB_len _ _) _ (HBODY.out _ (BWw7.out.trans ((HB8.out.trans (below_own hg9 (fun k hk => (World.ownsRow.lt OWN0.out k hk).1) HB8.out.size)).mono BWw7.out.size))) (fun h => by cases h) (by omega) (Nat.le_trans HB8.out.size hg9.size) ?_; intro v10 w10 ho10 hg10)))
      have HB9 := Lib.hid (below_own hg9 (fun k hk => (World.ownsRow.lt OWN0.out k hk).1) HB8.out.size)
      have HB10 := Lib.hid (below_own hg10 (fun k hk => (owns_lt ho9 k hk).1) (Nat.le_trans HB8.out.size hg9.size))
      have HB710 := Lib.hid ((HB8.out.trans HB9.out).trans HB10.out)
      have BW10 := Lib.hid (BWw7.out.trans (HB710.out.mono BWw7.out.size))
      have F7b := Lib.hid (F7.out.belowB (fun k hk => (own_lt F7.out k hk).2) HB710.out)
      rw [List.nil_append, ← bv_append, show 0 + 12 + 48 = 60 from rfl] at ho10
      obtain ⟨A10, c10, hv10, hl10, -, -, -, hs10, -⟩ := own_bs ho10
      subst hv10
      refine (ref32_any A10 (frontB t k r q ++ bodyB (allB b) r) c10 60 w10 hl10 (by unfold maxLen; omega) _ hs10).mono ?_
      rintro e wq ⟨rfl, rfl⟩
      clear ho9 hg9 ho10 hg10 hl10 hs10 HB9 HB10 HB710 OWN0 HB8 HS8 BWw7 F7
      obtain ⟨cq, hcq⟩ : ∃ cq, cq = Sm.sm 2197175160 4 (frontB t k r q ++ bodyB (allB b) r) := ⟨_, rfl⟩
      rw [← hcq]
      have HCQ := Lib.hid hcq
      clear hcq
      go_wp2_with fail
      refine (rhigh4 cq w10).mono ?_
      rintro e w11 ⟨v_, rfl, ho_, hb_⟩
      obtain ⟨Ae, n_, Ce, rfl, hl_, -, -, hn_, hs_⟩ := ho_.open
      obtain rfl : n_ = 4 := by rw [← hl_, hi_length]
      have HSe := Lib.hid hs_
      have HNe := Lib.hid hn_
      have BW11 := Lib.hid (BW10.out.trans (hb_.mono BW10.out.size))
      have F7c := Lib.hid (F7b.out.below hb_)
      clear hl_ hn_ hs_ ho_ hb_ F7b BW10
      have hat : ∀ (g o c : Nat) (w : World), (Instr.arrayAt 89 (.slice (some ⟨g, o, none⟩) 64 c)).run Try.prog w = .ok (.pointer (some ⟨g, o, none⟩)) w := fun g o c w => run_arrayAt w _ _ 64 _ 64 c Try.underlying89 (Nat.le_refl _)
      obtain ⟨ib, hib, hbz0, hbz1, hbz2⟩ := info_parts info39
      have HIB := Lib.hid hib
      have HBZ0 := Lib.hid hbz0
      have HBs1 : Hid (ib.size = (bv nought).length) := Lib.hid (by rw [bv_length]; exact hbz1)
      have HBp : Hid (0 < (bv nought).length) := Lib.hid (by rw [bv_length]; decide)
      have HBn : Hid ((bv nought).length ≤ 1000) := Lib.hid (by rw [bv_length]; decide)
      have HBZa : Hid (ib.zero = some (.agg (bv nought).toArray)) := Lib.hid hbz0
      have HBZ1 := Lib.hid hbz1
      have HBZ2 := Lib.hid hbz2
      clear hib hbz0 hbz1 hbz2
      obtain ⟨pm, hpm⟩ : ∃ pm, pm = frontB t k r q ++ hi 4 cq ++ bodyB (allB b) r := ⟨_, rfl⟩
      have HPM := Lib.hid hpm
      have HPL : Hid (pm.length = 64) := Lib.hid (by rw [hpm, List.length_append, List.length_append, frontB_len, hi_length, bodyB_len])
      clear hpm
      have HPn : Hid ((bv pm).length = (bv nought).length) := Lib.hid (by rw [bv_length, HPL.out, bv_length]; rfl)
      have HLB : Hid ((Try.prog.info? 89).map (·.size) = some (bv pm).length) := (show _ = _ by rw [bv_length, HPL.out]; exact size39)
      go_upto_region 14 with (first
        | (at_builtin; (refine wpList_append_bs (o := ⟨some 68, _, _, _, _, _⟩) rfl (.tmp 65) (.tmp 67) 37 rfl wr.heap.size 5 i0 (.int .u8 0) Try.underlying37 HI0.out HZ0.out HZ1.out HZ2.out rfl (.slice A7 12 C7) (frontB t k r q).length (bv (frontB t k r q)) rfl F7c.out Ae 4 Ce (hi 4 cq) rfl (hi_length 4 cq) _ HSe.out HNe.out (by rw [frontB_len]; omega) BW11.out.size ?_; intro v12 w12 ho12 hg12; have BW12 := Lib.hid (BW11.out.trans (below_own hg12 (fun k hk => (own_lt F7c.out k hk).1) BW11.out.size))))
        | (at_builtin; (refine wpList_append_bs (o := ⟨some 70, _, _, _, _, _⟩) rfl (.tmp 68) (.tmp 69) 37 rfl wr.heap.size 5 i0 (.int .u8 0) Try.underlying37 HI0.out HZ0.out HZ1.out HZ2.out rfl v12 ((frontB t k r q).length + 4) (bv (frontB t k r q) ++ bv (hi 4 cq)) rfl ho12 (some ⟨ga, oa + 48 * r, none⟩) 48 (cu - 48 * r) (bodyB (allB b) r) rfl (bodyB_len _ _) _ (HBODY.out _ BW12.out) (fun h => by cases h) (by rw [frontB_len]; omega) BW12.out.size ?_; intro v13 w13 ho13 hg13; have BW13 := Lib.hid (BW12.out.trans (below_own hg13 (fun k hk => (owns_lt ho12 k hk).1) BW12.out.size)); obtain ⟨g13, o13, c13, hv13, hrg13⟩ := part64 ho13 (bodyB_len _ _); rw [← HPM.out] at hrg13; have HRG13 := Lib.hid hrg13; subst hv13; clear hrg13 ho13 hg13 ho12 hg12 BW12))
        | (with_reducible refine Wl.wpList_load_row (op := ⟨some 72, _, _, _, _, _⟩) ?_ 89 (.tmp 71) ?_ g13 o13 ?_ (bv pm) _ HRG13.out Try.underlying89 ?_ HLB.out ?_)
        | (with_reducible refine wpList_build1 (o := ⟨some 73, _, _, _, _, _⟩) ?_ 72 89 (.tmp 72) ?_ (bv pm) (bv nought) ib ?_ Try.underlying72 HIB.out HBZa.out HBs1.out HPn.out HBp.out HBn.out ?_)
        | (at_builtin; go_loud (refine wpList_append_k (o := ⟨some 74, _, _, _, _, _⟩) rfl (.tmp 64) (.tmp 73) 72 rfl wz.heap.size 89 ib (blk nought) 64 64 Try.underlying72 HIB.out HBZ0.out HBZ1.out HBZ2.out rfl (by decide) u9 r (((partsM t k b).take r).flatMap bv) rfl ?own (some ⟨w13.heap.size, 0, none⟩) 1 1 (bv pm) rfl ?len (w13.heap.size + 1) ?vs bv_one (fun h => by cases h) (by unfold maxLen; omega) (by omega) ?siz ?next)))
      all_goals try rfl
      case own => exact ownsB HV.out (fun k hk => (owns_lt HV.out k hk).2) (BW13.out.trans ((Below.refl _ _).alloc BW13.out.size _))
      case len => rw [bv_length, HPL.out]
      case vs => exact fun _ => ⟨w13.heap.size, 0, rfl, Nat.lt_succ_self _, Row.all (Row.new w13 _ _)⟩
      case siz => exact Nat.le_trans HBz.out.size (BW13.out.trans ((Below.refl _ _).alloc BW13.out.size _)).size
      case next =>
        intro v14 w14 ho14 hg14
        have hba14 : Below wr.heap.size wr (w13.alloc (.cells (bv pm).toArray 89)) := BW13.out.trans ((Below.refl _ _).alloc BW13.out.size _)
        have HV14 : (w13.alloc (.cells (bv pm).toArray 89)).ownsRow wz.heap.size 89 64 u9 r (((partsM t k b).take r).flatMap bv) := ownsB HV.out (fun k hk => (owns_lt HV.out k hk).2) hba14
        have HA14 : Own (w13.alloc (.cells (bv pm).toArray 89)) wz.heap.size (.slice (some ⟨ga, oa, none⟩) (48 * q) cu) (padB b j) := HA.out.belowB (fun k hk => (own_lt HA.out k hk).2) hba14
        have HVN : Hid (w14.ownsRow wz.heap.size 89 64 v14 (r + 1) (((partsM t k b).take (r + 1)).flatMap bv)) := Lib.hid (by
          rw [parts_next (q := q) (by rw [HBL.out]; exact HQ.out) hlt, ← HCQ.out, ← HPM.out]
          exact ho14)
        have HAN : Hid (Own w14 wz.heap.size (.slice (some ⟨ga, oa, none⟩) (48 * q) cu) (padB b j)) := Lib.hid (World.ownsRow.kept HA14 hg14 (owns_ne HA14 HV14 (by decide)))
        have hbz14 := HBz.out.trans (hba14.mono HBz.out.size)
        have HBN : Hid (Below wz.heap.size wz w14) := Lib.hid (hbz14.grown hg14 hbz14.size (fun k hk => (owns_lt HV14 k hk).1))
        have hw3 : wrap64 ((r : Int) + 1) = (r : Int) + 1 := by unfold wrap64; omega
        clear ho14 hg14 hba14 HV14 HA14 hbz14 HV HA HBz HCQ HPM HPL HPn HLB HRG13 BW13 BW11 HSe HNe F7c HBODY HCU HS7 HN7 hat HIB HBZ0 HBs1 HBp HBn HBZa HBZ1 HBZ2 HP48 BWwr
        go_wp2_with fail
        go_roundw
        case rel => exact ⟨r + 1, v14, by omega, rfl, rfl, HVN, HAN, HBN⟩
        case measure => simp [intOf]; omega
end Go.Proofs.Yteemdjamgbbjhaa.Wr

/-
  The law's own log: what formats a disk.
-/
namespace Go.Proofs.Yteemdjamgbbjhaa.Wr
set_option maxRecDepth 100000
open Go.RowKit Go.Shelf Go.Lib Go.Proofs.Yteemdjamgbbjhaa.Wd Go.Proofs.Yteemdjamgbbjhaa.Dsk Go.Proofs.Yteemdjamgbbjhaa.Oct Go.Proofs.Yteemdjamgbbjhaa.Sum Go.Proofs.Yteemdjamgbbjhaa.Beq Go.Proofs.Yteemdjamgbbjhaa.Wl

/-- the numbers of sectors, as values -/
def upto (n : Nat) : List Value := (List.range n).map fun (i : Nat) => .int .i64 (i : Int)
theorem upto_succ (n : Nat) : upto (n + 1) = upto n ++ [.int .i64 (n : Int)] := by simp [upto, List.range_succ]
theorem upto_len (n : Nat) : (upto n).length = n := by simp [upto]
theorem upto_at {n k : Nat} {x : Int} (h : ((List.range n).map fun (i : Nat) => (i : Int))[k]? = some x) : (upto n)[k]? = some (.int .i64 x) := by
  simp [upto, List.getElem?_map] at h ⊢
  obtain ⟨a, h1, h2⟩ := h
  exact ⟨a, h1, h2⟩
theorem noughts_pairs (n : Nat) : ((List.range n).map fun (i : Nat) => (i : Int)).map (fun i => (i, nought)) = noughtsL n := by simp [noughtsL]
theorem parts_pairs (t k : Nat) (b : List UInt8) : (partsM t k b).zipIdx.map (fun (p : List UInt8 × Nat) => ((p.2 : Int), p.1)) = pairsM t k b := by
  unfold partsM pairsM
  apply List.ext_getElem?
  intro i
  simp only [List.getElem?_map, List.getElem?_zipIdx]
  cases h : (List.range (sects b.length))[i]? with
  | none => simp
  | some j =>
    have : j = i := by
      rw [List.getElem?_eq_some_iff] at h
      obtain ⟨h1, h2⟩ := h
      simpa using h2.symm
    subst this
    simp
theorem vs_row {w : World} {base n size : Nat} {e : TypeId} {v : Value} {xs : List Value} (h : w.ownsRow base e size v n xs) (hn : 0 < n) : ∃ g c, v = .slice (some ⟨g, 0, none⟩) n c ∧ base ≤ g ∧ g < w.heap.size ∧ ∀ k x, xs[k]? = some x → w.cell? ⟨g, k, none⟩ = some x := by
  have hlt := World.ownsRow.lt h
  rcases h with ⟨hl, h2 | ⟨g, cap, cur, e1, hg, h3, h4, h5, h6, h7⟩⟩
  · omega
  · subst e1
    refine ⟨g, cap, rfl, hg, (hlt g rfl).2, fun k x hx => ?_⟩
    have hk : k < xs.length := (List.getElem?_eq_some_iff.1 hx).1
    have : cur.toList[k]? = some x := by
      rw [← h7] at hx
      rw [List.getElem?_take] at hx
      split at hx
      · exact hx
      · cases hx
    rw [cell_of_row w g k cur _ (0, 0) h3]
    simpa using this
set_option maxHeartbeats 4000000 in
theorem rform_any (dg area : Nat) (d : DM) (F : Nat → Prop) (w : World) (h : Disk w F dg d) (h4 : 4 ≤ area) (ha : area ≤ 1000) (hl : 2 + 2 * area ≤ d.sec.length) (hp : d.pend.length ≤ 800000) :
    Calls Try.prog 14 #[.pointer (some ⟨dg, 0, none⟩), .int .i64 (area : Int)] w fun e w' => ∃ p F', e = .returned (.tuple #[.pointer p, .int .i64 (formM area d).2]) ∧
      Disk w' F' dg (formM area d).1 ∧ Ext F F' w w' ∧ Off F w w' ∧ ((formM area d).2 ≠ 0 → p = none) ∧ ((formM area d).2 = 0 → ∃ g gl, p = some ⟨g, 0, none⟩ ∧ w.heap.size ≤ g ∧ w.heap.size ≤ gl ∧ ¬ F' g ∧ ¬ F' gl ∧
        Row w' g 97 [.pointer (some ⟨dg, 0, none⟩), .int .i64 (area : Int), .int .u32 0, .slice (some ⟨gl, 0, none⟩) 1 1, .int .i64 1, .bool false] ∧ Row w' gl 37 [.slice none 0 0]) := by
  obtain ⟨iI, hiI, hzI, hsI, hbI⟩ := info_parts info3
  have HII := Lib.hid hiI
  have HZI := Lib.hid hzI
  have HSI := Lib.hid hsI
  have HBI := Lib.hid hbI
  have HD := Lib.hid h
  have HP := Lib.hid hp
  have a1 : decide ((4 : Int) ≤ (area : Int)) = true := by simp; omega
  have a2 : decide ((area : Int) ≤ 1000) = true := by simp; omega
  have har := rarea_any (area : Int) w
  rw [a1, a2] at har
  have HAR := Lib.hid har
  have HL := Lib.hid (len_any dg d F w h.1)
  have hll : ¬ ((d.sec.length : Int) < 2 + 2 * (area : Int)) := by omega
  have hw1 : wrap64 (2 * (area : Int)) = 2 * (area : Int) := by unfold wrap64; omega
  have hw2 : wrap64 (2 + 2 * (area : Int)) = 2 + 2 * (area : Int) := by unfold wrap64; omega
  clear hiI hzI hsI hbI h hp har a1 a2 hl
  go_enter Try.func14, Try.ntmps14
  go_wp2_with fail
  refine HAR.out.mono ?_
  rintro e w1 ⟨rfl, hx⟩
  subst hx
  go_wp2_with fail
  refine HL.out.mono ?_
  rintro e w2 ⟨rfl, hx⟩
  subst hx
  clear HAR HL
  go_wp2_with fail
  have HV0 : Hid (w2.ownsRow w2.heap.size 3 1 (.slice none 0 0) 0 (upto 0)) := Lib.hid ⟨rfl, .inl ⟨rfl, rfl⟩⟩
  have HB0 : Hid (Below w2.heap.size w2 w2) := Lib.hid (Below.refl _ _)
  go_loopw [6, 25] (fun t6 i wr => ∃ (r : Nat) (v : Value), r ≤ 2 + 2 * area ∧ i = .int .i64 (r : Int) ∧ t6 = v ∧ Hid (wr.ownsRow w2.heap.size 3 1 v r (upto r)) ∧ Hid (Below w2.heap.size w2 wr)) (fun _ i _ => 2 + 2 * area - (intOf i).toNat)
  case atStart => exact ⟨0, _, by omega, rfl, rfl, HV0, HB0⟩
  case round =>
    obtain ⟨r, v, hr, rfl, rfl, HV, HB⟩ := hrel
    clear HV0 HB0
    by_cases hlt : r < 2 + 2 * area
    case pos =>
      have h1 : (r : Int) < 2 + 2 * (area : Int) := by omega
      have hrz : Row (wr.alloc (.cells #[.int .i64 (r : Int)] 3)) wr.heap.size 3 [.int .i64 (r : Int)] := Row.new wr _ _
      have hba : Below wr.heap.size wr (wr.alloc (.cells #[.int .i64 (r : Int)] 3)) := (Below.refl _ _).alloc (Nat.le_refl _) _
      have HRZ := Lib.hid hrz
      have HVA := Lib.hid (ownsB HV.out (fun k hk => (owns_lt HV.out k hk).2) hba)
      have HBA := Lib.hid (HB.out.trans (hba.mono HB.out.size))
      clear hrz hba HB HV
      go_wp2_with (first
        | (at_builtin; (refine wpList_append_k (o := ⟨some 31, _, _, _, _, _⟩) rfl (.tmp 28) (.tmp 30) 67 rfl w2.heap.size 3 iI (.int .i64 0) 1 8 Try.underlying67 HII.out HZI.out HSI.out HBI.out rfl (by decide) u6 r (upto r) rfl HVA.out (some ⟨wr.heap.size, 0, none⟩) 1 1 [.int .i64 (r : Int)] rfl rfl (wr.heap.size + 1) (fun _ => ⟨wr.heap.size, 0, rfl, Nat.lt_succ_self _, Row.all HRZ.out⟩) (one_cell _) (fun h => by cases h) (by unfold maxLen; omega) (by omega) HBA.out.size ?_; intro v5 w5 ho5 hg5)))
      have HO5 : Hid (w5.ownsRow w2.heap.size 3 1 v5 (r + 1) (upto (r + 1))) := Lib.hid (by rw [upto_succ]; exact ho5)
      have HB5 : Hid (Below w2.heap.size w2 w5) := Lib.hid (HBA.out.grown hg5 HBA.out.size (fun k hk => (owns_lt HVA.out k hk).1))
      have hw3 : wrap64 ((r : Int) + 1) = (r : Int) + 1 := by unfold wrap64; omega
      clear ho5 hg5 HRZ HVA HBA
      go_roundw
      case rel => exact ⟨r + 1, v5, by omega, rfl, rfl, HO5, HB5⟩
      case measure => simp [intOf]; omega
    have h1 : ¬ (r : Int) < 2 + 2 * (area : Int) := by omega
    obtain rfl : r = 2 + 2 * area := by omega
    obtain ⟨gi, ci, hv, hgi, hgl, hci⟩ := vs_row HV.out (by omega)
    subst hv
    have HNA := Lib.hid (noughts_any ((List.range (2 + 2 * area)).map fun (i : Nat) => (i : Int)) (some ⟨gi, 0, none⟩) (2 + 2 * area) ci dg d F wr (HD.out.below HB.out) (by simp) (fun _ => ⟨gi, 0, rfl, hgl, fun hf => by have := HD.out.2 gi hf; omega, fun k x hx => by rw [Nat.zero_add]; exact hci k _ (upto_at hx)⟩) (by have := HP.out; omega))
    rw [noughts_pairs] at HNA
    have HOF : Hid (Off F w2 wr) := Lib.hid ⟨HB.out.os, HB.out.tape, HB.out.output, HB.out.size, fun k hk _ => HB.out.block k hk⟩
    have HXF : Hid (Ext F F w2 wr) := Lib.hid (Ext.refl _ _ _)
    clear hgi hgl hci HV HII HZI HSI HBI hlt h1
    go_wp2_with fail
    refine HNA.out.mono ?_
    rintro e w3 ⟨rfl, hg3⟩
    have HG3 := Lib.hid (goes_trans HXF.out HOF.out hg3)
    clear hg3 HNA HXF HOF HB
    obtain ⟨d1, hd1⟩ : ∃ d1, (layM (noughtsL (2 + 2 * area)) 0 d).1 = d1 := ⟨_, rfl⟩
    obtain ⟨er, her⟩ : ∃ er, (layM (noughtsL (2 + 2 * area)) 0 d).2 = er := ⟨_, rfl⟩
    rw [hd1] at HG3
    rw [her]
    have hpd1 : d1.pend.length ≤ 810000 := by
      rw [← hd1]
      have h1 := lay_pend (noughtsL (2 + 2 * area)) 0 d
      have h2 : (noughtsL (2 + 2 * area)).length = 2 + 2 * area := by simp [noughtsL]
      have := HP.out
      omega
    have HD1 := Lib.hid hd1
    have HER := Lib.hid her
    have HPD := Lib.hid hpd1
    clear hd1 her hpd1 HP
    by_cases h0 : er = 0
    case neg =>
      have hF : formM area d = (d1, er) := by
        unfold formM
        rw [if_pos (by rw [HER.out]; exact h0), ← HD1.out, ← HER.out]
      obtain ⟨F3, hd3, hx3, ho3⟩ := HG3.out
      have HF := Lib.hid (show Disk w3 F3 dg d1 ∧ Ext F F3 w2 w3 ∧ Off F w2 w3 from ⟨hd3, hx3, ho3⟩)
      have heb : (er != 0) = true := by simp [h0]
      have HFF := Lib.hid hF
      clear hF hd3 hx3 ho3 HG3
      go_wp2
      exact bodyPost_ret (v := .tuple #[.pointer none, .int .i64 er]) (by simp [results, Try.results14, go_sem]) rfl ⟨_, F3, by rw [HFF.out], by rw [HFF.out]; exact HF.out.1, HF.out.2.1, HF.out.2.2, fun _ => rfl, fun h => absurd (by rw [HFF.out] at h; exact h) h0⟩
    subst h0
    go_wp2_with fail
    have hfr := frame_any 0 0 [] none 0 0 w3 rfl (by omega) (fun _ => rfl) (Bs.nil _ _ _) (by omega) (by omega)
    refine hfr.mono ?_
    rintro e w4 ⟨v4, rfl, ho4, hb4⟩
    rw [show sects 0 = 1 from rfl, show partsM 0 0 [] = [partM 0 0 [] 0] from rfl] at ho4
    obtain ⟨g4, c4, hv4, hg4, hg4l, hc4⟩ := vs_row ho4 (by omega)
    subst hv4
    have HF4 : Hid (formM area d = beginM 0 area [] d1) := Lib.hid (by
      unfold formM
      rw [if_neg (by rw [HER.out]; simp), HD1.out])
    obtain ⟨F3, hd3, hx3, ho3⟩ := HG3.out
    have HX3 := Lib.hid hx3
    have HO3 := Lib.hid (off_then_below ho3 hb4)
    have HX4 : Hid (Ext F F3 w2 w4) := Lib.hid (ext_then_below hx3 hb4.size)
    have hd4 := hd3.below hb4
    have HS4 := Lib.hid ho3.size
    have HWR := Lib.hid (rwrite_any [partM 0 0 [] 0] 2 (some ⟨g4, 0, none⟩) 1 c4 dg d1 F3 w4 hd4 rfl (fun l hl => by rw [List.mem_singleton.1 hl]; exact partM_len _ _ _ _) (by omega) (fun _ => ⟨g4, 0, rfl, hg4l, fun hf => by have := hd3.2 g4 hf; omega, fun k l hk j v hj => by
      have hk0 : k = 0 := by have := (List.getElem?_eq_some_iff.1 hk).1; simp at this; omega
      subst hk0
      obtain rfl : partM 0 0 [] 0 = l := by simpa using hk
      have := hc4 j v (by simpa using hj)
      simpa using this⟩) (by have := HPD.out; omega))
    have hpz : ([partM 0 0 [] 0] : List (List UInt8)).zipIdx.map (fun (p : List UInt8 × Nat) => ((p.2 : Int), p.1)) = pairsM 0 0 [] := parts_pairs 0 0 []
    rw [hpz] at HWR
    clear hfr ho4 hb4 hg4 hg4l hc4 hd3 hx3 ho3 hd4 hpz HG3 HD1 HER
    go_wp2_with fail
    refine HWR.out.mono ?_
    rintro e w5 ⟨rfl, hg5⟩
    have HG5 := Lib.hid (goes_trans HX4.out HO3.out hg5)
    clear hg5 HWR HX4 HX3 HO3 HS4
    have hbg : beginM 0 area [] d1 = if (layM (pairsM 0 0 []) 2 d1).2 ≠ 0 then layM (pairsM 0 0 []) 2 d1 else layM [(0, headB 0 area)] 0 (layM (pairsM 0 0 []) 2 d1).1 := by
      unfold beginM
      rw [show ((2 + 0 % 2 * area : Nat) : Int) = 2 from by simp]
      rfl
    have HBG := Lib.hid hbg
    obtain ⟨d2, hd2⟩ : ∃ d2, (layM (pairsM 0 0 []) 2 d1).1 = d2 := ⟨_, rfl⟩
    obtain ⟨er2, her2⟩ : ∃ er2, (layM (pairsM 0 0 []) 2 d1).2 = er2 := ⟨_, rfl⟩
    rw [show (((2 : Nat) : Int)) = 2 from rfl] at HG5
    rw [show (((2 : Nat) : Int)) = 2 from rfl, her2]
    rw [hd2] at HG5
    have hpd2 : d2.pend.length ≤ 820000 := by
      rw [← hd2]
      have h1 := lay_pend (pairsM 0 0 []) 2 d1
      have h2 : (pairsM 0 0 []).length = 1 := rfl
      have := HPD.out
      omega
    have HD2 := Lib.hid hd2
    have HER2 := Lib.hid her2
    have HPD2 := Lib.hid hpd2
    clear hbg hd2 her2 hpd2 HPD
    by_cases h0 : er2 = 0
    case neg =>
      have hF : formM area d = (d2, er2) := by
        rw [HF4.out, HBG.out, if_pos (by rw [HER2.out]; exact h0), ← HD2.out, ← HER2.out]
      obtain ⟨F5, hd5, hx5, ho5⟩ := HG5.out
      have HF := Lib.hid (show Disk w5 F5 dg d2 ∧ Ext F F5 w2 w5 ∧ Off F w2 w5 from ⟨hd5, hx5, ho5⟩)
      have heb : (er2 != 0) = true := by simp [h0]
      have HFF := Lib.hid hF
      clear hF hd5 hx5 ho5 HG5
      go_wp2
      exact bodyPost_ret (v := .tuple #[.pointer none, .int .i64 er2]) (by simp [results, Try.results14, go_sem]) rfl ⟨_, F5, by rw [HFF.out], by rw [HFF.out]; exact HF.out.1, HF.out.2.1, HF.out.2.2, fun _ => rfl, fun h => absurd (by rw [HFF.out] at h; exact h) h0⟩
    subst h0
    have hF6 : Hid (formM area d = layM [(0, headB 0 area)] 0 d2) := Lib.hid (by
      rw [HF4.out, HBG.out, if_neg (by rw [HER2.out]; simp), HD2.out])
    clear HF4 HBG HD2 HER2
    have hrh := rhead_any 0 area w5 (by omega) ha
    have HRH := Lib.hid hrh
    clear hrh
    obtain ⟨ib, hib, hbz0, hbz1, hbz2⟩ := info_parts info39
    have HIB := Lib.hid hib
    have HBs1 : Hid (ib.size = (bv nought).length) := Lib.hid (by rw [bv_length]; exact hbz1)
    have HBp : Hid (0 < (bv nought).length) := Lib.hid (by rw [bv_length]; decide)
    have HBn : Hid ((bv nought).length ≤ 1000) := Lib.hid (by rw [bv_length]; decide)
    have HBZa : Hid (ib.zero = some (.agg (bv nought).toArray)) := Lib.hid hbz0
    have HPn : Hid ((bv (headB 0 area)).length = (bv nought).length) := Lib.hid (by rw [bv_length, headB_len, bv_length]; rfl)
    clear hib hbz0 hbz1 hbz2
    go_wp2_with fail
    refine HRH.out.mono ?_
    rintro e w6 ⟨rfl, hb6⟩
    have HB6 := Lib.hid hb6
    clear hb6 HRH
    go_wp2_with (first
      | (with_reducible refine wpList_build1 (o := ⟨some 48, _, _, _, _, _⟩) ?_ 72 89 (.tmp 47) ?_ (bv (headB 0 area)) (bv nought) ib ?_ Try.underlying72 HIB.out HBZa.out HBs1.out HPn.out HBp.out HBn.out ?_))
    all_goals try rfl
    obtain ⟨F5, hd5, hx5, ho5⟩ := HG5.out
    have hra : Row (w6.alloc (.cells (bv (headB 0 area)).toArray 89)) w6.heap.size 89 (bv (headB 0 area)) := Row.new w6 _ _
    have hba : Below w5.heap.size w5 (w6.alloc (.cells (bv (headB 0 area)).toArray 89)) := HB6.out.trans ((Below.refl _ _).alloc HB6.out.size _)
    have HO7 := Lib.hid (off_then_below ho5 hba)
    have HX7 : Hid (Ext F F5 w2 (w6.alloc (.cells (bv (headB 0 area)).toArray 89))) := Lib.hid (ext_then_below hx5 hba.size)
    have HW2 := Lib.hid (rwrite_any [headB 0 area] 0 (some ⟨w6.heap.size, 0, none⟩) 1 1 dg d2 F5 _ (hd5.below hba) rfl (fun l hl => by rw [List.mem_singleton.1 hl]; exact headB_len _ _) (by omega) (fun _ => ⟨w6.heap.size, 0, rfl, hra.lt, fun hf => by have := hd5.2 _ hf; have := HB6.out.size; omega, fun k l hk j v hj => by
      have hk0 : k = 0 := by have := (List.getElem?_eq_some_iff.1 hk).1; simp at this; omega
      subst hk0
      obtain rfl : headB 0 area = l := by simpa using hk
      have := Row.all hra j v (by simpa using hj)
      simpa using this⟩) (by have := HPD2.out; omega))
    have hpz : ([headB 0 area] : List (List UInt8)).zipIdx.map (fun (p : List UInt8 × Nat) => ((p.2 : Int), p.1)) = [(0, headB 0 area)] := rfl
    rw [hpz, show (((0 : Nat) : Int)) = 0 from rfl, ← hF6.out] at HW2
    clear hra hba hd5 hx5 ho5 HG5 HB6 hpz
    refine HW2.out.mono ?_
    rintro e w8 ⟨rfl, hg8⟩
    have HG8 := Lib.hid (goes_trans HX7.out HO7.out hg8)
    clear hg8 HW2 HX7 HO7 HIB HBs1 HBp HBn HBZa HPn HPD2 hF6
    obtain ⟨F8, hd8, hx8, ho8⟩ := HG8.out
    have HF := Lib.hid (show Disk w8 F8 dg (formM area d).1 ∧ Ext F F8 w2 w8 ∧ Off F w2 w8 from ⟨hd8, hx8, ho8⟩)
    clear hd8 hx8 ho8 HG8
    obtain ⟨er3, her3⟩ : ∃ er3, (formM area d).2 = er3 := ⟨_, rfl⟩
    rw [her3]
    have HER3 := Lib.hid her3
    clear her3
    by_cases h0 : er3 = 0
    case neg =>
      have heb : (er3 != 0) = true := by simp [h0]
      go_wp2
      exact bodyPost_ret (v := .tuple #[.pointer none, .int .i64 er3]) (by simp [results, Try.results14, go_sem]) rfl ⟨_, F8, by rw [HER3.out], HF.out.1, HF.out.2.1, HF.out.2.2, fun _ => rfl, fun h => absurd (HER3.out.symm.trans h) h0⟩
    subst h0
    have hb9 : Below w8.heap.size w8 ((w8.alloc (.cells #[.slice none 0 0] 37)).alloc (.cells #[.pointer (some ⟨dg, 0, none⟩), .int .i64 (area : Int), .int .u32 0, .slice (some ⟨w8.heap.size, 0, none⟩) 1 1, .int .i64 1, .bool false] 97)) := ((Below.refl _ _).alloc (Nat.le_refl _) _).alloc (by simp) _
    have hr9 : Row ((w8.alloc (.cells #[.slice none 0 0] 37)).alloc (.cells #[.pointer (some ⟨dg, 0, none⟩), .int .i64 (area : Int), .int .u32 0, .slice (some ⟨w8.heap.size, 0, none⟩) 1 1, .int .i64 1, .bool false] 97)) (w8.alloc (.cells #[.slice none 0 0] 37)).heap.size 97 [.pointer (some ⟨dg, 0, none⟩), .int .i64 (area : Int), .int .u32 0, .slice (some ⟨w8.heap.size, 0, none⟩) 1 1, .int .i64 1, .bool false] := Row.new _ _ _
    rw [show (w8.alloc (.cells #[.slice none 0 0] 37)).heap.size = w8.heap.size + 1 by simp] at hr9
    have hl9 : Row ((w8.alloc (.cells #[.slice none 0 0] 37)).alloc (.cells #[.pointer (some ⟨dg, 0, none⟩), .int .i64 (area : Int), .int .u32 0, .slice (some ⟨w8.heap.size, 0, none⟩) 1 1, .int .i64 1, .bool false] 97)) w8.heap.size 37 [.slice none 0 0] := (Row.new w8 _ [.slice none 0 0]).alloc _
    have H9 := Lib.hid (And.intro hb9 (And.intro hr9 hl9))
    clear hb9 hr9 hl9
    go_wp2_with fail
    exact bodyPost_ret (v := .tuple #[.pointer (some ⟨w8.heap.size + 1, 0, none⟩), .int .i64 0]) (by simp [results, Try.results14, go_sem]) rfl ⟨_, F8, by rw [HER3.out], HF.out.1.below H9.out.1, ext_then_below HF.out.2.1 H9.out.1.size, off_then_below HF.out.2.2 H9.out.1, fun h => absurd HER3.out h, fun _ => ⟨_, _, rfl, by have := HF.out.2.2.size; omega, HF.out.2.2.size, fun hf => by have := HF.out.1.2 _ hf; omega, fun hf => by have := HF.out.1.2 _ hf; omega, H9.out.2.1, H9.out.2.2⟩⟩
end Go.Proofs.Yteemdjamgbbjhaa.Wr

/-
  copy of elements of k cells into a row that is known whole.
-/
namespace Go.Proofs.Yteemdjamgbbjhaa.Dsk
open Go.RowKit Go.Proofs.Yteemdjamgbbjhaa.Wd

theorem run_copy_rowK {P : Program} (w : World) (dT sT ty elem : TypeId) (g dLen dCap : Nat) (A : Option Addr) (sLen sCap k : Nat) (cur : List Value) (t : TypeId) (cs : List Value)
    (hu : P.underlying dT = some (.slice elem)) (hs : (P.info? elem).map (·.size) = some k) (hk : 0 < k)
    (hg : Row w g t cur) (m : Nat) (hm : Nat.min sLen dLen = m) (hn : cs.length = m * k) (hsrc : 0 < cs.length → ∃ ad, A = some ad ∧ ∀ j v, cs[j]? = some v → w.cell? (ad.add j) = some v) (hfit : cs.length ≤ cur.length) (h1 : ∀ v ∈ cs, v.oneCell' = true) :
    ∃ w', (Builtin.copy_ #[dT, sT] ty #[.slice (some ⟨g, 0, none⟩) dLen dCap, .slice A sLen sCap]).run P w = .ok (goInt m) w' ∧ Row w' g t (splice cur 0 cs) ∧ w.grownBy w' (some g) := by
  cases hq : P.info? elem with
  | none => simp [hq] at hs
  | some i =>
    have hi : i.size = k := by simpa [hq] using hs
    by_cases h0 : cs.length = 0
    · obtain rfl : cs = [] := List.eq_nil_of_length_eq_zero h0
      have hm0 : m = 0 := by
        rcases Nat.eq_zero_or_pos m with h | h
        · exact h
        · have := Nat.mul_pos h hk
          rw [← hn] at this; simp at this
      subst hm0
      have hl : ∀ (x : Addr), (loadCells x 0).run P w = .ok #[] w := fun x => by simpa using run_loadCells_list (P := P) w x [] (by simp)
      refine ⟨w, ?_, by simpa [splice] using hg, World.grownBy.refl _ _⟩
      cases A <;> simp [Builtin.copy_, run_underlying hu, Builtin.lenOf, Builtin.firstCells, sizeOf, typeInfo, hq, hm, storeCells, hl]
    · obtain ⟨ad, rfl, hsrc2⟩ := hsrc (by omega)
      have hl := run_loadCells_list (P := P) w ad cs hsrc2
      have hst := run_storeCells_at P g 0 t cs 0 cur.toArray w hg (by simpa using hfit) h1
      refine ⟨_, ?_, ?_, grown_setRow w g ((cur.take 0 ++ cs ++ cur.drop (0 + cs.length)).toArray)⟩
      · have hn' : m * k = cs.length := hn.symm
        simp [Builtin.copy_, run_underlying hu, Builtin.lenOf, Builtin.firstCells, sizeOf, typeInfo, hq, hi, hm, hn', hl, hst]
      · show _ = _
        simpa [splice] using setRow_heap w g _ _ t _ hg
theorem wp_copy_rowK {P : Program} {w : World} {o : Oper} {a : Act} {K : Act → World → Prop} {Q : Exit → Act → World → Prop} (d s : Operand) (dT sT : TypeId)
    (ho : o.op = .call { callee := .builtin .copy, args := #[d, s], argTypes := #[dT, sT] }) (elem : TypeId) (hu : P.underlying dT = some (.slice elem)) (k : Nat) (hs : (P.info? elem).map (·.size) = some k) (hk : 0 < k)
    (g dLen dCap : Nat) (A : Option Addr) (sLen sCap : Nat) (hd : a.eval d = .slice (some ⟨g, 0, none⟩) dLen dCap) (hsv : a.eval s = .slice A sLen sCap) (cur : List Value) (t : TypeId) (cs : List Value)
    (hg : Row w g t cur) (m : Nat) (hm : Nat.min sLen dLen = m) (hn : cs.length = m * k) (hsrc : 0 < cs.length → ∃ ad, A = some ad ∧ ∀ j v, cs[j]? = some v → w.cell? (ad.add j) = some v) (hfit : cs.length ≤ cur.length) (h1 : ∀ v ∈ cs, v.oneCell' = true)
    (h : ∀ w', Row w' g t (splice cur 0 cs) → w.grownBy w' (some g) → K (a.put o.dst (goInt m)) w') : o.wp P a w K Q := by
  obtain ⟨w', hrun, hrow, hgr⟩ := run_copy_rowK w dT sT o.type elem g dLen dCap A sLen sCap k cur t cs hu hs hk hg m hm hn hsrc hfit h1
  unfold Oper.wp
  simp [execOp, ho, resolve, invoke, builtin, hd, hsv, hrun, Result.andThen]
  exact h _ hrow hgr
theorem make_writes (n : Nat) (hn : n ≤ 1000000) (u : World) : (Instr.makeSlice 73 (.int .i64 (n : Int)) (.int .i64 (n : Int))).run Try.prog u =
    .ok (.slice (some ⟨u.heap.size, 0, none⟩) n n) (u.alloc (.cells (madeCells (pcs (0, nought, nought)).toArray (n * 129)) 121)) := by
  obtain ⟨i0, hi, hz0, hz1, hz2⟩ := info_parts info81
  have h := run_make (P := Try.prog) u 73 121 i0 (.agg (pcs (0, nought, nought)).toArray) Try.underlying73 hi hz0 .i64 .i64 (n : Int) (n : Int) (by omega) (Int.le_refl _) (by rw [hz2]; omega) (by omega)
  rw [hz1, Int.toNat_natCast] at h
  exact h
/-- a row that was made, whatever lies in it -/
theorem Row.madeAny (w : World) (z : Array Value) (m : Nat) (t : TypeId) : ∃ cs, cs.length = m ∧ Row (w.alloc (.cells (madeCells z m) t)) w.heap.size t cs :=
  ⟨(madeCells z m).toList, by simp [madeCells], Row.new w t (madeCells z m).toList⟩
end Go.Proofs.Yteemdjamgbbjhaa.Dsk

/-
  The contract of Copy.
-/
namespace Go.Proofs.Yteemdjamgbbjhaa.Dsk
open Go.RowKit Go.Proofs.Yteemdjamgbbjhaa.Wd

theorem copy_nil (w : World) : Calls Try.prog 76 #[.pointer none] w fun e w' => e = .returned (.pointer none) ∧ w' = w := by
  go_enter Try.func76, Try.ntmps76
  go_wp2
  go_ret
  exact ⟨rfl, rfl⟩
set_option maxRecDepth 100000 in
set_option maxHeartbeats 2000000 in
theorem copy_any (g : Nat) (d : DM) (F : Nat → Prop) (w : World) (h : Disk w F g d) (hp : d.pend.length ≤ 1000000) :
    Calls Try.prog 76 #[.pointer (some ⟨g, 0, none⟩)] w fun e w' => e = .returned (.pointer (some ⟨w.heap.size, 0, none⟩)) ∧ Disk w' (fun k => w.heap.size ≤ k ∧ k < w'.heap.size) w.heap.size d ∧ Below w.heap.size w w' := by
  obtain ⟨⟨gs, A, c, h⟩, hF⟩ := h
  have hgl : g < w.heap.size := h.row.lt
  obtain ⟨ns, hns⟩ : ∃ n, n = d.sec.length := ⟨_, rfl⟩
  obtain ⟨np, hnp⟩ : ∃ n, n = d.pend.length := ⟨_, rfl⟩
  have hrow : Row w g 77 [.slice (some ⟨gs, 0, none⟩) ns ns, .slice A np c, .bool d.dead, .bool d.ps, .int .i64 d.pl, .bool d.fs, .int .i64 d.fl, .int .i64 d.ops] := by rw [hns, hnp]; exact h.row
  have hns0 : ns ≤ 2048 := by rw [hns]; exact h.good.most
  rw [← hnp] at hp
  have c0 : w.cell? ⟨g, 0, none⟩ = some (.slice (some ⟨gs, 0, none⟩) ns ns) := hrow.cell 0
  have c1 : w.cell? ⟨g, 1, none⟩ = some (.slice A np c) := hrow.cell 1
  have c2 : w.cell? ⟨g, 2, none⟩ = some (.bool d.dead) := hrow.cell 2
  have c3 : w.cell? ⟨g, 3, none⟩ = some (.bool d.ps) := hrow.cell 3
  have c4 : w.cell? ⟨g, 4, none⟩ = some (.int .i64 d.pl) := hrow.cell 4
  have c5 : w.cell? ⟨g, 5, none⟩ = some (.bool d.fs) := hrow.cell 5
  have c6 : w.cell? ⟨g, 6, none⟩ = some (.int .i64 d.fl) := hrow.cell 6
  have c7 : w.cell? ⟨g, 7, none⟩ = some (.int .i64 d.ops) := hrow.cell 7
  have hmk := make_blks ns hns0
  obtain ⟨w1, hw1⟩ : ∃ w1, w1 = w.alloc (.cells #[.slice (some ⟨w.heap.size + 1, 0, none⟩) ns ns, .slice A np c, .bool d.dead, .bool d.ps, .int .i64 d.pl, .bool d.fs, .int .i64 d.fl, .int .i64 d.ops] 77) := ⟨_, rfl⟩
  obtain ⟨w2, hw2⟩ : ∃ w2, w2 = w1.alloc (.cells (madeCells (bv nought).toArray (ns * 64)) 89) := ⟨_, rfl⟩
  have s1 : w1.heap.size = w.heap.size + 1 := by rw [hw1]; simp
  have s2 : w2.heap.size = w.heap.size + 1 + 1 := by rw [hw2]; simp [s1]
  have r0 : Row w2 w.heap.size 77 [.slice (some ⟨w.heap.size + 1, 0, none⟩) ns ns, .slice A np c, .bool d.dead, .bool d.ps, .int .i64 d.pl, .bool d.fs, .int .i64 d.fl, .int .i64 d.ops] := by
    rw [hw2, hw1]
    exact (Row.new w _ [.slice (some ⟨w.heap.size + 1, 0, none⟩) ns ns, .slice A np c, .bool d.dead, .bool d.ps, .int .i64 d.pl, .bool d.fs, .int .i64 d.fl, .int .i64 d.ops]).alloc _
  obtain ⟨cs0, hl0, hr0⟩ := Row.madeAny w1 (bv nought).toArray (ns * 64) 89
  rw [← hw2, s1] at hr0
  have hb2 : Below w.heap.size w w2 := by
    rw [hw2, hw1]
    exact ((Below.refl _ _).alloc (Nat.le_refl _) _).alloc (by simp) _
  have hd2 := h.below hb2
  have hfl : (bv d.sec.flatten).length = ns * 64 := by rw [bv_length, flat_len d.sec h.good.sec, hns]
  have q1 : w2.cell? ⟨w.heap.size, 0, none⟩ = some (.slice (some ⟨w.heap.size + 1, 0, none⟩) ns ns) := r0.cell 0
  have q2 : w2.cell? ⟨g, 0, none⟩ = some (.slice (some ⟨gs, 0, none⟩) ns ns) := (hb2.cell (p := ⟨g, 0, none⟩) hgl).trans c0
  have HSRC : Hid (w2.rangeAt gs 0 (bv d.sec.flatten)) := (show World.rangeAt _ _ _ _ from Row.range hd2.secs fun j v hj => by simpa using hj)
  have HW2 : Hid ((w.alloc (.cells #[.slice (some ⟨w.heap.size + 1, 0, none⟩) ns ns, .slice A np c, .bool d.dead, .bool d.ps, .int .i64 d.pl, .bool d.fs, .int .i64 d.fl, .int .i64 d.ops] 77)).alloc (.cells (madeCells (bv nought).toArray (ns * 64)) 89) = w2) := (show _ = _ by rw [hw2, hw1])
  have HR0 := Lib.hid r0
  have HC0 := Lib.hid hr0
  have HL0 := Lib.hid hl0
  have HB2 := Lib.hid hb2
  have HFL := Lib.hid hfl
  have HS2 := Lib.hid s2
  have hmk2 := make_writes np hp
  have hgs : gs < w.heap.size := h.secs.lt
  clear hw2 hw1 s1 s2 r0 hr0 hl0 hb2 hd2 hfl
  have HD := Lib.hid h
  have HNS := Lib.hid hns
  have HNP := Lib.hid hnp
  have HROW := Lib.hid hrow
  have HFF := Lib.hid hF
  clear h hns hnp hrow hF
  go_enter Try.func76, Try.ntmps76
  go_wp2_with fail
  rw [HW2.out]
  refine wp_region_held_drew (S := fun w' : World => w'.cell? ⟨w.heap.size, 0, none⟩ = some (.slice (some ⟨w.heap.size + 1, 0, none⟩) ns ns) ∧ w'.cell? ⟨g, 0, none⟩ = some (.slice (some ⟨gs, 0, none⟩) ns ns)) (by kernel_rfl) ⟨q1, q2⟩ (fun hHeld => ?_)
  refine wpAnyH_take (i := 0) (oi := ⟨some 16, _, _, _, _, _⟩) (v := ?v0) rfl (by kernel_rfl) (by kernel_rfl) (by kernel_rfl) (fun _ _ _ h => h) (Or.inl ⟨by rfl, ?y0⟩) hHeld ?r0
  case y0 =>
    rintro w' ⟨z1, z2⟩
    go_simp
    try with_reducible rfl
  try simp only [Act.put, List.setIfInBounds_toArray, List.set_cons_zero, List.set_cons_succ]
  refine wpAnyH_take (i := 1) (oi := ⟨some 17, _, _, _, _, _⟩) (v := ?v1) rfl (by kernel_rfl) (by kernel_rfl) (by kernel_rfl) (fun _ _ _ h => h) (Or.inl ⟨by rfl, ?y1⟩) hHeld ?r1
  case y1 =>
    rintro w' ⟨z1, z2⟩
    go_simp
    try with_reducible rfl
  try simp only [Act.put, List.setIfInBounds_toArray, List.set_cons_zero, List.set_cons_succ]
  refine wpAnyH_take (i := 2) (oi := ⟨some 18, _, _, _, _, _⟩) (v := ?v2) rfl (by kernel_rfl) (by kernel_rfl) (by kernel_rfl) (fun _ _ _ h => h) (Or.inl ⟨by rfl, ?y2⟩) hHeld ?r2
  case y2 =>
    rintro w' ⟨z1, z2⟩
    go_simp
    try with_reducible rfl
  try simp only [Act.put, List.setIfInBounds_toArray, List.set_cons_zero, List.set_cons_succ]
  refine wpAnyH_take (i := 3) (oi := ⟨some 19, _, _, _, _, _⟩) (v := ?v3) rfl (by kernel_rfl) (by kernel_rfl) (by kernel_rfl) (fun _ _ _ h => h) (Or.inl ⟨by rfl, ?y3⟩) hHeld ?r3
  case y3 =>
    rintro w' ⟨z1, z2⟩
    go_simp
    try with_reducible rfl
  try simp only [Act.put, List.setIfInBounds_toArray, List.set_cons_zero, List.set_cons_succ]
  refine wpAnyH_take (i := 4) (oi := ⟨some 20, _, _, _, _, _⟩) (v := ?v4) rfl (by kernel_rfl) (by kernel_rfl) (by kernel_rfl) (fun _ _ _ h => h) (Or.inl ⟨by rfl, ?y4⟩) hHeld ?r4
  case y4 =>
    rintro w' ⟨z1, z2⟩
    go_simp
    try with_reducible rfl
  try simp only [Act.put, List.setIfInBounds_toArray, List.set_cons_zero, List.set_cons_succ]
  refine wpAnyH_take (i := 5) (oi := ⟨some 21, _, _, _, _, _⟩) (v := ?v5) rfl (by kernel_rfl) (by kernel_rfl) (by kernel_rfl) (fun _ _ _ h => h) (Or.inl ⟨by rfl, ?y5⟩) hHeld ?r5
  case y5 =>
    rintro w' ⟨z1, z2⟩
    go_simp
    try with_reducible rfl
  try simp only [Act.put, List.setIfInBounds_toArray, List.set_cons_zero, List.set_cons_succ]
  refine wpAnyH_ready (rs := [6]) (by kernel_rfl) (by simp) ?_
  refine AllReadyH.cons rfl (fun K hK => ?_) AllReadyH.nil
  rw [if_pos (by rfl)]
  refine wp_copy_rowK (.tmp 17) (.tmp 21) 72 72 rfl 89 Try.underlying72 64 size39 (by decide) (w.heap.size + 1) ns ns (some ⟨gs, 0, none⟩) ns ns ?d17 ?d21 cs0 89 (bv d.sec.flatten) HC0.out ns (Nat.min_self ns) HFL.out (fun _ => ⟨⟨gs, 0, none⟩, rfl, fun j v hj => by rw [Addr.add_lit]; exact HSRC.out j v hj⟩) (by rw [HFL.out, HL0.out]; exact Nat.le_refl _) bv_one ?_
  case d17 => first | rfl | (simp [Act.eval]; done)
  case d21 => first | rfl | (simp [Act.eval]; done)
  intro w3 hr3 hg3
  rw [splice_all cs0 (bv d.sec.flatten) (by rw [HFL.out, HL0.out])] at hr3
  have hne1 : some w.heap.size ≠ some (w.heap.size + 1) := fun e => by have := Option.some.inj e; omega
  have hne2 : some g ≠ some (w.heap.size + 1) := fun e => by have := Option.some.inj e; omega
  refine hK _ _ ⟨hg3.cell q1 hne1, hg3.cell q2 hne2⟩ (fun _ => wpAnyH_done (by kernel_rfl) ?_ _)
  have hg3' : w2.grownBy w3 (some (w.heap.size + 1)) := ⟨hg3.os, hg3.tape, hg3.output, hg3.size, hg3.block⟩
  have r03 := HR0.out.grown hg3' hne1
  have hb3 : Below w.heap.size w w3 := HB2.out.grown hg3' (by rw [HS2.out]; omega) (fun j e => by have := Option.some.inj e; omega)
  have hs3 : w.heap.size + 1 < w3.heap.size := hr3.lt
  have HR3 := Lib.hid hr3
  have HR03 := Lib.hid r03
  have HB3 := Lib.hid hb3
  have c1' : w3.cell? ⟨g, 1, none⟩ = some (.slice A np c) := (hb3.cell (p := ⟨g, 1, none⟩) hgl).trans c1
  have k1 : (w3.alloc (.cells (madeCells (pcs (0, nought, nought)).toArray (np * 129)) 121)).cell? ⟨w.heap.size, 1, none⟩ = some (.slice A np c) := (r03.alloc _).cell 1
  have k2 : (w3.alloc (.cells (madeCells (pcs (0, nought, nought)).toArray (np * 129)) 121)).frozen? ⟨w.heap.size, 1, none⟩ = false := (r03.alloc _).frozen 1
  obtain ⟨w5, hw5⟩ : ∃ w5, w5 = ((w3.setCell ⟨w.heap.size, 1, none⟩ (.slice (some ⟨w3.heap.size, 0, none⟩) np np)).alloc (.cells (madeCells (pcs (0, nought, nought)).toArray (np * 129)) 121)) := ⟨_, rfl⟩
  have hltw : w.heap.size < w3.heap.size := by omega
  have r05 : Row w5 w.heap.size 77 [.slice (some ⟨w.heap.size + 1, 0, none⟩) ns ns, (.slice (some ⟨w3.heap.size, 0, none⟩) np np), .bool d.dead, .bool d.ps, .int .i64 d.pl, .bool d.fs, .int .i64 d.fl, .int .i64 d.ops] := by
    rw [hw5]
    exact (r03.store 1 _).alloc _
  have rs5 : Row w5 (w.heap.size + 1) 89 (bv d.sec.flatten) := by
    rw [hw5]
    exact (Row.far hr3 (p := ⟨w.heap.size, 1, none⟩) (by show w.heap.size + 1 ≠ w.heap.size; omega) _).alloc _
  obtain ⟨cs1, hl1, hr1⟩ := Row.madeAny (w3.setCell ⟨w.heap.size, 1, none⟩ (.slice (some ⟨w3.heap.size, 0, none⟩) np np)) (pcs (0, nought, nought)).toArray (np * 129) 121
  have rp5 : Row w5 w3.heap.size 121 cs1 := by
    rw [show (w3.setCell ⟨w.heap.size, 1, none⟩ (.slice (some ⟨w3.heap.size, 0, none⟩) np np)).heap.size = w3.heap.size by simp [World.setCell]] at hr1
    rw [hw5]
    exact hr1
  have hb5 : Below w.heap.size w w5 := by
    rw [hw5]
    exact (hb3.setCell (p := ⟨w.heap.size, 1, none⟩) (Nat.le_refl _) _).alloc (by simp [World.setCell]; omega) _
  have q3 : w5.cell? ⟨w.heap.size, 1, none⟩ = some (.slice (some ⟨w3.heap.size, 0, none⟩) np np) := r05.cell 1
  have q4 : w5.cell? ⟨g, 1, none⟩ = some (.slice A np c) := (hb5.cell (p := ⟨g, 1, none⟩) hgl).trans c1
  have hd5 := HD.out.below hb5
  have HPL : Hid ((d.pend.flatMap pcs).length = np * 129) := (show _ = _ by rw [HNP.out]; exact hd5.pend.1)
  have HSRC2 : Hid (0 < (d.pend.flatMap pcs).length → ∃ ad, A = some ad ∧ ∀ j v, (d.pend.flatMap pcs)[j]? = some v → w5.cell? (ad.add j) = some v) := (show _ → _ from fun hpos => by
    have hp5 := hd5.pend
    rcases hp5.2 with ⟨_, h0⟩ | ⟨gp, cap, cur, hv, _, _, _⟩
    · rw [hp5.1, h0] at hpos; simp at hpos
    · have hA : A = some ⟨gp, 0, none⟩ := by simp only [Value.slice.injEq] at hv; exact hv.1
      subst hA
      exact ⟨_, rfl, fun j v hj => World.ownsRow.cells hp5 (g := gp) rfl j v hj⟩)
  have hone : ∀ v ∈ d.pend.flatMap pcs, v.oneCell' = true := fun v hv => by
    obtain ⟨p, _, hv⟩ := List.mem_flatMap.1 hv
    exact pcs_one p v hv
  have HONE := Lib.hid hone
  have hs5 : w3.heap.size < w5.heap.size := rp5.lt
  have HW5 : Hid (((w3.setCell ⟨w.heap.size, 1, none⟩ (.slice (some ⟨w3.heap.size, 0, none⟩) np np)).alloc (.cells (madeCells (pcs (0, nought, nought)).toArray (np * 129)) 121)) = w5) := (show _ = _ from hw5.symm)
  have HR05 := Lib.hid r05
  have HRS5 := Lib.hid rs5
  have HRP5 := Lib.hid rp5
  have HL1 := Lib.hid hl1
  have HB5 := Lib.hid hb5
  clear hw5 r05 rs5 rp5 hr1 hl1 hb5 hd5 hone HR3 HR03 HB3
  clear hK K hHeld q1 q2 hr3 hg3 hg3' r03 hb3 HW2 HR0 HC0 HL0 HB2 HSRC HS2 hmk c0 c1 c2 c3 c4 c5 c6 c7
  try simp only [Act.put, List.setIfInBounds_toArray, List.set_cons_zero, List.set_cons_succ]
  go_wp2_with fail
  rw [HW5.out]
  refine wp_region_held_drew (S := fun w' : World => w'.cell? ⟨w.heap.size, 1, none⟩ = some (.slice (some ⟨w3.heap.size, 0, none⟩) np np) ∧ w'.cell? ⟨g, 1, none⟩ = some (.slice A np c)) (by kernel_rfl) ⟨q3, q4⟩ (fun hHeld => ?_)
  refine wpAnyH_take (i := 0) (oi := ⟨some 30, _, _, _, _, _⟩) (v := ?v0s) rfl (by kernel_rfl) (by kernel_rfl) (by kernel_rfl) (fun _ _ _ h => h) (Or.inl ⟨by rfl, ?y0s⟩) hHeld ?r0s
  case y0s =>
    rintro w' ⟨z1, z2⟩
    go_simp
    try with_reducible rfl
  try simp only [Act.put, List.setIfInBounds_toArray, List.set_cons_zero, List.set_cons_succ]
  refine wpAnyH_take (i := 1) (oi := ⟨some 31, _, _, _, _, _⟩) (v := ?v1s) rfl (by kernel_rfl) (by kernel_rfl) (by kernel_rfl) (fun _ _ _ h => h) (Or.inl ⟨by rfl, ?y1s⟩) hHeld ?r1s
  case y1s =>
    rintro w' ⟨z1, z2⟩
    go_simp
    try with_reducible rfl
  try simp only [Act.put, List.setIfInBounds_toArray, List.set_cons_zero, List.set_cons_succ]
  refine wpAnyH_take (i := 2) (oi := ⟨some 32, _, _, _, _, _⟩) (v := ?v2s) rfl (by kernel_rfl) (by kernel_rfl) (by kernel_rfl) (fun _ _ _ h => h) (Or.inl ⟨by rfl, ?y2s⟩) hHeld ?r2s
  case y2s =>
    rintro w' ⟨z1, z2⟩
    go_simp
    try with_reducible rfl
  try simp only [Act.put, List.setIfInBounds_toArray, List.set_cons_zero, List.set_cons_succ]
  refine wpAnyH_take (i := 3) (oi := ⟨some 33, _, _, _, _, _⟩) (v := ?v3s) rfl (by kernel_rfl) (by kernel_rfl) (by kernel_rfl) (fun _ _ _ h => h) (Or.inl ⟨by rfl, ?y3s⟩) hHeld ?r3s
  case y3s =>
    rintro w' ⟨z1, z2⟩
    go_simp
    try with_reducible rfl
  try simp only [Act.put, List.setIfInBounds_toArray, List.set_cons_zero, List.set_cons_succ]
  refine wpAnyH_take (i := 4) (oi := ⟨some 34, _, _, _, _, _⟩) (v := ?v4s) rfl (by kernel_rfl) (by kernel_rfl) (by kernel_rfl) (fun _ _ _ h => h) (Or.inl ⟨by rfl, ?y4s⟩) hHeld ?r4s
  case y4s =>
    rintro w' ⟨z1, z2⟩
    go_simp
    try with_reducible rfl
  try simp only [Act.put, List.setIfInBounds_toArray, List.set_cons_zero, List.set_cons_succ]
  refine wpAnyH_take (i := 5) (oi := ⟨some 35, _, _, _, _, _⟩) (v := ?v5s) rfl (by kernel_rfl) (by kernel_rfl) (by kernel_rfl) (fun _ _ _ h => h) (Or.inl ⟨by rfl, ?y5s⟩) hHeld ?r5s
  case y5s =>
    rintro w' ⟨z1, z2⟩
    go_simp
    try with_reducible rfl
  try simp only [Act.put, List.setIfInBounds_toArray, List.set_cons_zero, List.set_cons_succ]
  refine wpAnyH_ready (rs := [6]) (by kernel_rfl) (by simp) ?_
  refine AllReadyH.cons rfl (fun K hK => ?_) AllReadyH.nil
  rw [if_pos (by rfl)]
  refine wp_copy_rowK (.tmp 31) (.tmp 35) 73 73 rfl 121 Try.underlying73 129 size81 (by decide) w3.heap.size np np A np c ?d31 ?d35 cs1 121 (d.pend.flatMap pcs) HRP5.out np (Nat.min_self np) HPL.out HSRC2.out (by rw [HPL.out, HL1.out]; exact Nat.le_refl _) HONE.out ?_
  case d31 => first | rfl | (simp [Act.eval]; done)
  case d35 => first | rfl | (simp [Act.eval]; done)
  intro w6 hr6 hg6
  rw [splice_all cs1 (d.pend.flatMap pcs) (by rw [HPL.out, HL1.out])] at hr6
  have hne1 : some w.heap.size ≠ some w3.heap.size := fun e => by have := Option.some.inj e; omega
  have hne2 : some g ≠ some w3.heap.size := fun e => by have := Option.some.inj e; omega
  have hne3 : some (w.heap.size + 1) ≠ some w3.heap.size := fun e => by have := Option.some.inj e; omega
  refine hK _ _ ⟨hg6.cell q3 hne1, hg6.cell q4 hne2⟩ (fun _ => wpAnyH_done (by kernel_rfl) ?_ _)
  have hg6' : w5.grownBy w6 (some w3.heap.size) := ⟨hg6.os, hg6.tape, hg6.output, hg6.size, hg6.block⟩
  have r06 := HR05.out.grown hg6' hne1
  have rs6 := HRS5.out.grown hg6' hne3
  have hb6 : Below w.heap.size w w6 := HB5.out.grown hg6' (by omega) (fun j e => by have := Option.some.inj e; omega)
  have hat : DskAt w6 (fun k => w.heap.size ≤ k ∧ k < w6.heap.size) w.heap.size (w.heap.size + 1) (some ⟨w3.heap.size, 0, none⟩) np d := by
    refine ⟨⟨Nat.le_refl _, r06.lt⟩, ⟨by omega, rs6.lt⟩, by omega, (fun k hk => ?_), ?_, rs6, ⟨by rw [HPL.out, HNP.out], .inr ⟨w3.heap.size, np, (d.pend.flatMap pcs).toArray, by rw [HNP.out], Nat.zero_le _, hr6, by rw [HNP.out]; exact Nat.le_refl _, by unfold maxLen; omega, by rw [List.size_toArray, HPL.out], ?_⟩⟩, HD.out.good⟩
    · obtain rfl := Option.some.inj hk
      have hlt6 : w3.heap.size < w6.heap.size := hr6.lt
      exact ⟨⟨by show w.heap.size ≤ w3.heap.size; omega, hlt6⟩, by show w3.heap.size ≠ _; omega, by show w3.heap.size ≠ _; omega⟩
    · have h := r06
      rw [HNS.out, HNP.out] at h
      rw [HNP.out]
      exact h
    · show (d.pend.flatMap pcs).take (d.pend.length * 129) = _
      exact List.take_of_length_le (by rw [HPL.out, HNP.out]; exact Nat.le_refl _)
  have HDK : Hid (Disk w6 (fun k => w.heap.size ≤ k ∧ k < w6.heap.size) w.heap.size d) := (show Disk _ _ _ _ from ⟨⟨_, _, _, hat⟩, fun k hk => hk.2⟩)
  have HB6 := Lib.hid hb6
  clear hK K hHeld q3 q4 hr6 hg6 hg6' r06 rs6 hb6 hat HR05 HRS5 HRP5 HL1 HB5 HW5 HONE HSRC2
  try simp only [Act.put, List.setIfInBounds_toArray, List.set_cons_zero, List.set_cons_succ]
  go_wp2
  go_ret
  exact ⟨rfl, HDK.out, HB6.out⟩
end Go.Proofs.Yteemdjamgbbjhaa.Dsk
