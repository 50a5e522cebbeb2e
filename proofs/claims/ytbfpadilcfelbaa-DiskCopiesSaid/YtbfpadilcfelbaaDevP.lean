/-
  The statements' does on a disk; few, worn, held, same.
-/
import Derived.Test.YtbfpadilcfelbaaDevM
import Derived.Test.YtbfpadilcfelbaaDevE
namespace Go.Proofs.Ytbfpadilcfelbaa.Dsk
open Go.RowKit Go.Proofs.Ytbfpadilcfelbaa.Wd

theorem stable_disk {w : World} {F : Nat → Prop} {g : Nat} {d : DM} (d' : DM) (h : Disk w F g d) : Stable F w (fun w1 w2 => Goes F w1 g d' w2) := by
  refine ⟨h.2, fun w1 w2 ⟨_, _, _, ho⟩ => ho, ?_⟩
  rintro w1 w2 w3 b hb ⟨F', hd, hx, ho⟩ hlo hhi hg
  have hnb : ¬ F' b := fun hf => by
    rcases hx b hf with h1 | h1
    · have := h.2 b h1; omega
    · omega
  refine ⟨F', hd.off (F' := fun k => k = b) (fun k hk e => hnb (e ▸ hk)) (Off.of_grown hg (fun k e => (Option.some.inj e).symm)), fun k hk => ?_, ?_⟩
  · rcases hx k hk with h1 | h1
    · exact .inl h1
    · have := hb.size
      have := hg.size
      exact .inr ⟨by omega, by omega⟩
  · exact Off.behind hb ((off_mono (F' := fun k => F k ∨ w.heap.size ≤ k) ho (fun k _ hk => .inl hk)).grown hg (fun k e => .inl (.inr (by have := Option.some.inj e; omega)))) (fun k hk => hk)
theorem does_any (g : Nat) (d : DM) (F : Nat → Prop) (o : OM) (w : World) (h : Disk w F g d) (hp : d.pend.length ≤ 1000000) (ho : OpOk w o) (h4 : kindM o.k ≠ 4) :
    Calls Try.prog 10 #[.pointer (some ⟨g, 0, none⟩), o.val] w fun e w' => e = .returned (.tuple #[blk (d.doesM o).2.1, .int .i64 (d.doesM o).2.2]) ∧ Goes F w g (d.doesM o).1 w' := by
  have hgood : Good d := by obtain ⟨⟨_, _, _, h1⟩, _⟩ := h; exact h1.good
  rcases kindM_in o.k with hk | hk | hk | hk | hk | hk
  · have e : d.doesM o = d.readM o.a := by rw [DM.doesM, if_pos hk]
    rw [e]
    exact does0 _ _ _ _ _ _ _ _ _ w (fun w1 w2 => Goes F w1 g (d.readM o.a).1 w2) (stable_disk _ h) hk _ (readM_blk d o.a hgood) (fun w1 hb => read_any g d F o.a w1 (h.below hb))
  · have e : d.doesM o = ((d.writeM o.a (blockM o.x)).1, nought, (d.writeM o.a (blockM o.x)).2) := by rw [DM.doesM, if_neg (by omega), if_pos hk]
    rw [e]
    exact does1 _ _ _ _ _ _ _ _ _ w (fun w1 w2 => Goes F w1 g (d.writeM o.a (blockM o.x)).1 w2) (stable_disk _ h) hk (fun w1 hb => write_any g d F o.a (blockM o.x) w1 (h.below hb) (blockM_len _) hp)
  · have e : d.doesM o = (d.syncM.1, nought, d.syncM.2) := by rw [DM.doesM, if_neg (by omega), if_neg (by omega), if_pos hk]
    rw [e]
    exact does2 _ _ _ _ _ _ _ _ _ w (fun w1 w2 => Goes F w1 g d.syncM.1 w2) (stable_disk _ h) hk (fun w1 hb => sync_any g d F w1 (h.below hb))
  · have e : d.doesM o = ((d.armM o.a).1, nought, (d.armM o.a).2) := by rw [DM.doesM, if_neg (by omega), if_neg (by omega), if_neg (by omega), if_pos hk]
    rw [e]
    exact does3 _ _ _ _ _ _ _ _ _ w (fun w1 w2 => Goes F w1 g (d.armM o.a).1 w2) (stable_disk _ h) hk (fun w1 hb => arm_any g d F o.a w1 (h.below hb) ho.high)
  · exact absurd hk h4
  · have e : d.doesM o = ((d.failM o.a).1, nought, (d.failM o.a).2) := by rw [DM.doesM, if_neg (by omega), if_neg (by omega), if_neg (by omega), if_neg (by omega), if_pos hk]
    rw [e]
    exact does5 _ _ _ _ _ _ _ _ _ w (fun w1 w2 => Goes F w1 g (d.failM o.a).1 w2) (stable_disk _ h) hk (fun w1 hb => fail_any g d F o.a w1 (h.below hb) ho.high)
theorem few_any (A : Option Addr) (n c : Nat) (w : World) (hc : n ≤ c) (hA : A = none → c = 0) (hm : c ≤ maxLen) :
    Calls Try.prog 9 #[.slice A n c] w fun e w' => e = .returned (.slice A (min n 120) c) ∧ w' = w := by
  unfold maxLen at hm
  go_enter Try.func9, Try.ntmps9
  go_wp2
  case inl =>
    go_ret
    exact ⟨by rw [show min n 120 = 120 by omega]; rfl, rfl⟩
  case inr =>
    go_ret
    exact ⟨by rw [show min n 120 = n by omega]; rfl, rfl⟩
theorem OpOk.below {w w' : World} {o : OM} (h : OpOk w o) (hb : Below w.heap.size w w') : OpOk w' o :=
  ⟨h.len, fun hp => by
    obtain ⟨b, q, e, hlt, hr⟩ := h.vs hp
    exact ⟨b, q, e, Nat.lt_of_lt_of_le hlt hb.size, range_below hr hb hlt⟩, h.nil, h.most, h.low, h.high⟩
theorem Opl.below {w w' : World} {B : Nat} {A : Option Addr} {os : List OM} (h : Opl w B A os) (hb : Below B w w') : Opl w' B A os := fun hp => by
  obtain ⟨b, o, e, hlt, hr⟩ := h hp
  exact ⟨b, o, e, hlt, fun i m hm => range_below (hr i m hm) hb hlt⟩
theorem Opl.take {w : World} {B : Nat} {A : Option Addr} {os : List OM} (h : Opl w B A os) (k : Nat) : Opl w B A (os.take k) := fun hp => by
  obtain ⟨b, o, e, hlt, hr⟩ := h (by rw [List.length_take] at hp; omega)
  refine ⟨b, o, e, hlt, fun i m hm => hr i m ?_⟩
  rw [List.getElem?_take] at hm
  split at hm
  · exact hm
  · cases hm
def wornF (d : DM) (os : List OM) : DM := os.foldl (fun d o => if kindM o.k < 3 then (d.doesM o).1 else d) d
theorem wornF_snoc (d : DM) (os : List OM) (o : OM) : wornF d (os ++ [o]) = if kindM o.k < 3 then ((wornF d os).doesM o).1 else wornF d os := by simp [wornF]
theorem wornF_pend (os : List OM) : ∀ d : DM, (wornF d os).pend.length ≤ d.pend.length + os.length := by
  induction os with
  | nil => intro d; exact Nat.le_refl _
  | cons o os ih =>
    intro d
    have h := ih (if kindM o.k < 3 then (d.doesM o).1 else d)
    have h2 : (if kindM o.k < 3 then (d.doesM o).1 else d).pend.length ≤ d.pend.length + 1 := by
      split
      · exact does_pend d o
      · omega
    show (wornF (if kindM o.k < 3 then (d.doesM o).1 else d) os).pend.length ≤ _
    simp only [List.length_cons]
    omega

set_option maxRecDepth 100000 in
set_option maxHeartbeats 2000000 in
theorem worn_any (A : Option Addr) (n c : Nat) (os : List OM) (w : World) (hl : os.length = n) (hc : n ≤ c) (hA : A = none → c = 0) (hm : c ≤ maxLen) (ho : Opl w w.heap.size A os) (hok : ∀ o ∈ os, OpOk w o) :
    Calls Try.prog 17 #[.slice A n c] w fun e w' => ∃ g, e = .returned (.pointer (some ⟨g, 0, none⟩)) ∧ ∃ F, Disk w' F g (wornM os) ∧ (∀ k, F k → w.heap.size ≤ k) ∧ Below w.heap.size w w' := by
  have HO := Lib.hid (ho.take 120)
  have HOK : Hid (∀ o ∈ os.take 120, OpOk w o) := (show ∀ o ∈ _, _ from fun o h => hok o (List.mem_of_mem_take h))
  have e : wornM os = wornF (DM.new 6) (os.take 120) := rfl
  rw [e]
  have hlen : (os.take 120).length = min n 120 := by rw [List.length_take, hl, Nat.min_comm]
  obtain ⟨L, hL⟩ : ∃ L, L = os.take 120 := ⟨_, rfl⟩
  rw [← hL] at HO HOK hlen ⊢
  have HM := Lib.hid hm
  have hlm : L.length ≤ 120 := by omega
  clear hL e hok ho hl os hm
  go_enter Try.func17, Try.ntmps17
  go_wp2_with fail
  refine (dnew_good 6 _ (by omega) (by omega)).mono ?_
  rintro e w1 ⟨g, rfl, F1, hD1, hF1, hb1⟩
  have HD1 := Lib.hid hD1
  have HF1 := Lib.hid hF1
  have HB1 := Lib.hid hb1
  clear hD1 hF1 hb1
  go_wp2_with fail
  refine (few_any A n c w1 hc hA HM.out).mono ?_
  rintro e w2 ⟨rfl, rfl⟩
  rw [← hlen]
  obtain ⟨m, hm⟩ : ∃ m, m = L.length := ⟨_, rfl⟩
  rw [← hm]
  rw [← hm] at hlm
  have HLM := Lib.hid hm
  clear hlen hm hA hc
  go_wp2
  go_loopw [20] (fun i wr => ∃ k : Nat, k ≤ m ∧ i = .int .i64 k ∧ Hid (∃ F, Disk wr F g (wornF (DM.new 6) (L.take k)) ∧ (∀ j, F j → w.heap.size ≤ j) ∧ Below w.heap.size w wr)) (fun i _ => m - (intOf i).toNat)
  case atStart => exact ⟨0, by omega, rfl, (show ∃ F, _ from ⟨F1, HD1.out, HF1.out, HB1.out⟩)⟩
  case round =>
    obtain ⟨k, hk, rfl, HI⟩ := hrel
    by_cases hlt : k < m
    · obtain ⟨F, hD, hF, hB⟩ := HI.out
      have hkl : k < L.length := by rw [← HLM.out]; exact hlt
      obtain ⟨b, q, rfl, hbl, hr⟩ := HO.out (by omega)
      have hget : L[k]? = some L[k] := List.getElem?_eq_getElem hkl
      have hrg := range_below (hr k _ hget) hB hbl
      have hoo := (HOK.out L[k] (List.getElem_mem hkl)).below hB
      have hstep : L.take (k + 1) = L.take k ++ [L[k]] := List.take_succ_eq_append_getElem hkl
      obtain ⟨om, hom⟩ : ∃ om, om = L[k] := ⟨_, rfl⟩
      rw [← hom] at hrg hoo hstep
      have hpb : (wornF (DM.new 6) (L.take k)).pend.length ≤ 1000000 := by
        have := wornF_pend (L.take k) (DM.new 6)
        have h2 : (L.take k).length ≤ 120 := by rw [List.length_take]; omega
        simp only [DM.new, List.length_nil] at this
        simp only [DM.new]
        omega
      have HD := Lib.hid hD
      have HF := Lib.hid hF
      have HB := Lib.hid hB
      have HPB := Lib.hid hpb
      have HOO := Lib.hid hoo
      have HST := Lib.hid hstep
      clear hr hget hom hD hF hB hpb hoo hstep HI
      obtain ⟨kd, a, x, Ak, nk, ck, lk⟩ := om
      have c0 : wr.cell? ⟨b, q + k * 4, none⟩ = some (.int .i64 kd) := hrg 0 _ rfl
      have c1 : wr.cell? ⟨b, q + k * 4 + 1, none⟩ = some (.int .i64 a) := hrg 1 _ rfl
      have c2 : wr.cell? ⟨b, q + k * 4 + 2, none⟩ = some (.int .u8 (x.toNat : Int)) := hrg 2 _ rfl
      have c3 : wr.cell? ⟨b, q + k * 4 + 3, none⟩ = some (.slice Ak nk ck) := hrg 3 _ rfl
      clear hrg
      go_wp2_with fail
      refine (kind_any kd a _ (x.toNat : Int) rfl Ak nk ck _).mono ?_
      rintro e w3 ⟨rfl, hb3⟩
      have r3 := Row.below (Row.new wr 37 (ocs kd a x Ak nk ck)) hb3 (by simp)
      have q0 : w3.cell? ⟨wr.heap.size, 0, none⟩ = some (.int .i64 kd) := r3.cell 0
      have q1 : w3.cell? ⟨wr.heap.size, 1, none⟩ = some (.int .i64 a) := r3.cell 1
      have q2 : w3.cell? ⟨wr.heap.size, 2, none⟩ = some (.int .u8 (x.toNat : Int)) := r3.cell 2
      have q3 : w3.cell? ⟨wr.heap.size, 3, none⟩ = some (.slice Ak nk ck) := r3.cell 3
      have hb03 : Below wr.heap.size wr w3 := ((Below.refl _ _).alloc (Nat.le_refl _) _).trans (hb3.mono (by simp))
      have HB03 := Lib.hid hb03
      have HD3 := Lib.hid (HD.out.below hb03)
      clear hb3 r3 hb03 HD c0 c1 c2 c3
      by_cases hk3 : kindM kd < 3
      · have hst2 := HST.out
        have hwk := wornF_snoc (DM.new 6) (L.take k) ⟨kd, a, x, Ak, nk, ck, lk⟩
        rw [← hst2, if_pos (show kindM (OM.mk kd a x Ak nk ck lk).k < 3 from hk3)] at hwk
        have HWK := Lib.hid hwk
        clear hst2 hwk
        go_wp2_with fail
        refine (does_any g _ F ⟨kd, a, x, Ak, nk, ck, lk⟩ w3 HD3.out HPB.out (HOO.out.below HB03.out) (by show kindM kd ≠ 4; omega)).mono ?_
        rintro e w4 ⟨rfl, hG⟩
        obtain ⟨F4, hD4, hF4, hb4⟩ := hG.far HF.out (Nat.le_trans HB.out.size HB03.out.size)
        rw [← HWK.out] at hD4
        have HG := Lib.hid (show ∃ F, Disk w4 F g (wornF (DM.new 6) (L.take (k + 1))) ∧ (∀ j, F j → w.heap.size ≤ j) ∧ Below w.heap.size w w4 from ⟨F4, hD4, hF4, (HB.out.trans (HB03.out.mono HB.out.size)).trans hb4⟩)
        clear hG hD4 hF4 hb4 q0 q1 q2 q3
        go_wp2
        go_roundw
        case rel => exact ⟨k + 1, by omega, by go_num, HG⟩
        case measure => simp [intOf]; omega
      · have hst2 := HST.out
        have hwk := wornF_snoc (DM.new 6) (L.take k) ⟨kd, a, x, Ak, nk, ck, lk⟩
        rw [← hst2, if_neg (show ¬ kindM (OM.mk kd a x Ak nk ck lk).k < 3 from hk3)] at hwk
        have hD4 := HD3.out
        rw [← hwk] at hD4
        have HG := Lib.hid (show ∃ F, Disk w3 F g (wornF (DM.new 6) (L.take (k + 1))) ∧ (∀ j, F j → w.heap.size ≤ j) ∧ Below w.heap.size w w3 from ⟨F, hD4, HF.out, HB.out.trans (HB03.out.mono HB.out.size)⟩)
        clear hst2 hwk hD4 q0 q1 q2 q3
        go_wp2
        go_roundw
        case rel => exact ⟨k + 1, by omega, by go_num, HG⟩
        case measure => simp [intOf]; omega
    · obtain rfl : k = m := by omega
      obtain ⟨F, hD, hF, hB⟩ := HI.out
      rw [List.take_of_length_le (by rw [← HLM.out]; exact Nat.le_refl _)] at hD
      have HG := Lib.hid (show ∃ F, Disk wr F g (wornF (DM.new 6) L) ∧ (∀ k, F k → w.heap.size ≤ k) ∧ Below w.heap.size w wr from ⟨F, hD, hF, hB⟩)
      clear hD hF hB HI
      go_wp2
      go_ret
      exact ⟨g, rfl, HG.out⟩
end Go.Proofs.Ytbfpadilcfelbaa.Dsk
