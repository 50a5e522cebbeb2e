/-
  OctetBack: what was put is read as the same, and nothing is left. Condition: the arguments hold together at most 1048576 values and letters.
-/
import Derived.Test.YtihphbeehadgmaaOct3
import Derived.Test.YtihphbeehadgmaaOct6
import Derived.Test.YtihphbeehadgmaaLift
namespace Go.Proofs.Ytihphbeehadgmaa.OctBack
open Go.ChangeShapes Go.WideShapes Go.ChangeAt Go.RowKit Go.Proofs.Ytihphbeehadgmaa.Wd Go.Proofs.Ytihphbeehadgmaa.Oct

theorem own : ownKnob Try.prog.godebug = none := by kernel_rfl
theorem laidOut : laidOutB Try.prog = true := by kernel_rfl

/-- how many bytes the number at place i takes -/
def encW (i : Nat) : Nat := if i % 3 = 0 then 8 else if i % 3 = 1 then 4 else 2
/-- the bytes of the first k numbers -/
def enc (xs : List Nat) : Nat → List UInt8
  | 0 => []
  | k + 1 => enc xs k ++ hi (encW k) (xs.getD k 0)
theorem encW_le (i : Nat) : encW i ≤ 8 := by
  unfold encW
  split
  · omega
  · split <;> omega
theorem enc_len (xs : List Nat) (k : Nat) : (enc xs k).length ≤ 8 * k := by
  induction k with
  | zero => simp [enc]
  | succ k ih =>
    have := encW_le k
    rw [enc, List.length_append, hi_length]; omega
theorem enc_split (xs : List Nat) (tail : List UInt8) (n k : Nat) (h : k ≤ n) : ∃ post, enc xs n ++ tail = enc xs k ++ post := by
  induction n with
  | zero => obtain rfl : k = 0 := by omega
            exact ⟨_, rfl⟩
  | succ n ih =>
    by_cases e : k = n + 1
    · subst e; exact ⟨_, rfl⟩
    · obtain ⟨post, hp⟩ := ih (by omega)
      have hn : enc xs n ++ (hi (encW n) (xs.getD n 0) ++ tail) = enc xs (n + 1) ++ tail := by rw [enc, List.append_assoc]
      have : ∀ t, ∃ post, enc xs n ++ t = enc xs k ++ post := by
        intro t
        have h1 : (enc xs n).take (enc xs k).length = enc xs k := by
          have h2 := congrArg (List.take (enc xs k).length) hp
          rw [List.take_left] at h2
          by_cases hl : (enc xs k).length ≤ (enc xs n).length
          · rwa [List.take_append_of_le_length hl] at h2
          · exfalso
            have hm : ∀ a b, a ≤ b → (enc xs a).length ≤ (enc xs b).length := by
              intro a b hab
              induction b with
              | zero => obtain rfl : a = 0 := by omega
                        exact Nat.le_refl _
              | succ b ih =>
                by_cases e : a = b + 1
                · rw [e]; exact Nat.le_refl _
                · have := ih (by omega); rw [enc, List.length_append]; omega
            exact hl (hm k n (by omega))
        refine ⟨(enc xs n).drop (enc xs k).length ++ t, ?_⟩
        rw [← List.append_assoc]
        congr 1
        conv => lhs; rw [← List.take_append_drop (enc xs k).length (enc xs n), h1]
      obtain ⟨p2, hp2⟩ := this (hi (encW n) (xs.getD n 0) ++ tail)
      exact ⟨p2, by rw [← hn, hp2]⟩
theorem step_mid (pre mid post : List UInt8) (L : List UInt8) (h : L = pre ++ (mid ++ post)) (n : Int) (hn : n = mid.length) : Oct.step L pre.length 0 n = (mid, pre.length + mid.length, 0) := by
  subst h hn
  unfold Oct.step
  rw [if_neg (by simp), if_neg (by omega), if_neg (by simp; omega)]
  simp
theorem step_num (xs : List Nat) (tail : List UInt8) (n k : Nat) (h : k < n) : Oct.step (enc xs n ++ tail) (enc xs k).length 0 (encW k : Int) = (hi (encW k) (xs.getD k 0), (enc xs (k + 1)).length, 0) := by
  obtain ⟨post, hp⟩ := enc_split xs tail n (k + 1) (by omega)
  rw [enc, List.append_assoc] at hp
  rw [step_mid _ _ _ _ hp _ (by rw [hi_length]), enc, List.length_append]
theorem step_end (xs : List Nat) (tail : List UInt8) (n : Nat) (m : Int) (hm : m = tail.length) : Oct.step (enc xs n ++ tail) (enc xs n).length 0 m = (tail, (enc xs n ++ tail).length, 0) := by
  rw [step_mid (enc xs n) tail [] _ (by simp) m hm, List.length_append]
theorem encW0 {k : Nat} (h : k % 3 = 0) : encW k = 8 := by simp [encW, h]
theorem encW1 {k : Nat} (h : k % 3 = 1) : encW k = 4 := by simp [encW, h]
theorem encW2 {k : Nat} (h : k % 3 = 2) : encW k = 2 := by simp [encW, h]

set_option maxHeartbeats 2000000 in
theorem walk (A1 A2 : Option Addr) (n1 n2 c1 c2 : Nat) (xs : List Nat) (l2 : List UInt8) (w : World) (h1 : xs.length = n1) (h2 : l2.length = n2) (hn1 : n1 ≤ 1048576) (hn2 : n2 ≤ 1048576) (b1 : Us w w.heap.size A1 xs) (b2 : Bs w w.heap.size A2 l2) (hA2 : A2 = none → c2 = 0) (hin : ∀ x ∈ xs, InU64 x) :
    Calls Try.prog 7 #[.slice A1 n1 c1, .slice A2 n2 c2] w fun e w' => e = .returned (.bool true) ∧ Below w.heap.size w w' := by
  obtain ⟨i0, hi0, hz0, hz1, hz2⟩ := info_parts info5
  have H1 := Lib.hid h1
  have H2 := Lib.hid h2
  have HA2 := Lib.hid hA2
  have HIN := Lib.hid hin
  clear h1 h2 hA2 hin
  have hA : ∀ w', Below w.heap.size w w' → Us w' w.heap.size A1 xs := fun w' h => b1.below h
  have hB : ∀ w', Below w.heap.size w w' → Bs w' w'.heap.size A2 l2 := fun w' h => (b2.below h).more h.size
  have HA := Lib.hid hA
  have HB := Lib.hid hB
  clear hA hB b1 b2
  go_enter Try.func7, Try.ntmps7
  go_wp2_with fail
  refine (wakes_any _).mono ?_
  rintro e w1 ⟨rfl, hb1⟩
  have B1 := Lib.hid hb1
  clear hb1
  go_wp2_with fail
  go_loopw [5, 15] (fun v i wr => ∃ (k m : Nat) (A : Option Addr) (c : Nat), k ≤ n1 ∧ i = .int .i64 k ∧ v = .slice A m c ∧ wr.ownsRow w.heap.size 5 1 (.slice A m c) m (bv (enc xs k)) ∧ Hid (Below w.heap.size w wr)) (fun _ i _ => n1 - (intOf i).toNat)
  case atStart => exact ⟨0, 0, none, 0, by omega, rfl, rfl, World.ownsRow_nil _ _ _ _, B1⟩
  case round =>
    obtain ⟨k, m, A, c, hk, rfl, rfl, hown, BR⟩ := hrel
    by_cases hlt : k < n1
    · have hk' : k < xs.length := by rw [H1.out]; exact hlt
      obtain ⟨ba, oa, rfl, hba, hca⟩ := (HA.out _ BR.out) (by omega)
      have hx1 := hca k hk'
      have hxin : InU64 (xs.getD k 0) := HIN.out _ (by simp [List.getD_eq_getElem?_getD, hk'])
      have hel := enc_len xs k
      obtain ⟨A', c', hv', hl, hnc, hcm, hAn, hbs, _⟩ := own_bs hown
      obtain ⟨rfl, _, rfl⟩ := Value.slice.inj hv'
      have HE : Hid (enc xs (k + 1) = enc xs k ++ Wd.hi (encW k) (xs.getD k 0)) := (show _ = _ from rfl)
      have hm8 : m ≤ 8388608 := by omega
      have HL := Lib.hid hl
      have HO := Lib.hid hown
      clear hca hv' hl hcm hAn hown hel
      generalize xs.getD k 0 = x at hx1 hxin HE
      have finish : ∀ (e : Ending) (w' : World), Made wr (enc xs k ++ Wd.hi (encW k) x) e w' → ∃ g q, e = .returned (.slice (some ⟨g, 0, none⟩) q q) ∧ w'.ownsRow w.heap.size 5 1 (.slice (some ⟨g, 0, none⟩) q q) q (bv (enc xs (k + 1))) ∧ Hid (Below w.heap.size w w') := by
        rintro e w' ⟨g, q, rfl, hq, hg, hr, hb⟩
        refine ⟨g, q, rfl, ?_, (show Below _ _ _ from BR.out.trans (hb.mono BR.out.size))⟩
        rw [HE.out]
        refine Row.own hr (Nat.le_trans BR.out.size hg) (by rw [bv_length]; exact hq.out) ?_
        have := hq.out; rw [List.length_append, HL.out, hi_length] at this; have := encW_le k; unfold maxLen; omega
      have FIN := Lib.hid finish
      clear finish
      have h3 : k % 3 = 0 ∨ k % 3 = 1 ∨ k % 3 = 2 := by omega
      rcases h3 with h3 | h3 | h3
      · have t0 : (((k : Int) % 3) == 0) = true := by simp; omega
        rw [encW0 h3] at FIN
        clear h3 HE
        go_wp2_with fail
        refine (put64_any _ (enc xs k) _ m x _ HL.out.symm (by omega) hbs).mono ?_
        intro e w' hmade
        obtain ⟨g, q, rfl, hown2, BR2⟩ := FIN.out e w' hmade
        clear hmade
        go_wp2_with fail
        go_roundw
        case rel => exact ⟨k + 1, q, _, _, by omega, by go_num, rfl, hown2, BR2⟩
        case measure => simp [intOf]; omega
      · have t0 : (((k : Int) % 3) == 0) = false := by simp; omega
        have t1 : (((k : Int) % 3) == 1) = true := by simp; omega
        rw [encW1 h3] at FIN
        have e32 : ((x : Int) % 4294967296) = ((x % 4294967296 : Nat) : Int) := by simp
        have l32 : ((x % 4294967296 : Nat) : Int) < 4294967296 := by omega
        have m32 : Wd.hi 4 (x % 4294967296) = Wd.hi 4 x := hi_mod 4 4 x (by omega)
        have E32 := Lib.hid e32
        have L32 := Lib.hid l32
        have M32 := Lib.hid m32
        clear h3 HE e32 l32 m32
        go_wp2_with fail
        rw [E32.out]
        refine (put32_any _ (enc xs k) _ m _ _ HL.out.symm (by omega) L32.out hbs).mono ?_
        intro e w' hmade
        rw [M32.out] at hmade
        obtain ⟨g, q, rfl, hown2, BR2⟩ := FIN.out e w' hmade
        clear hmade
        go_wp2_with fail
        go_roundw
        case rel => exact ⟨k + 1, q, _, _, by omega, by go_num, rfl, hown2, BR2⟩
        case measure => simp [intOf]; omega
      · have t0 : (((k : Int) % 3) == 0) = false := by simp; omega
        have t1 : (((k : Int) % 3) == 1) = false := by simp; omega
        rw [encW2 h3] at FIN
        have e16 : IntKind.u16.wrap (x : Int) = ((x % 65536 : Nat) : Int) := by rw [IntKind.wrap_u16]; simp
        have l16 : ((x % 65536 : Nat) : Int) < 65536 := by omega
        have m16 : Wd.hi 2 (x % 65536) = Wd.hi 2 x := hi_mod 2 2 x (by omega)
        have E16 := Lib.hid e16
        have L16 := Lib.hid l16
        have M16 := Lib.hid m16
        clear h3 HE e16 l16 m16
        go_wp2_with fail
        rw [E16.out]
        refine (put16_any _ (enc xs k) _ m _ _ HL.out.symm (by omega) L16.out hbs).mono ?_
        intro e w' hmade
        rw [M16.out] at hmade
        obtain ⟨g, q, rfl, hown2, BR2⟩ := FIN.out e w' hmade
        clear hmade
        go_wp2_with fail
        go_roundw
        case rel => exact ⟨k + 1, q, _, _, by omega, by go_num, rfl, hown2, BR2⟩
        case measure => simp [intOf]; omega
    · obtain rfl : k = n1 := by omega
      obtain ⟨A', c', hv', hl, hnc, hcm, hAn, hbs, _⟩ := own_bs hown
      obtain ⟨rfl, _, rfl⟩ := Value.slice.inj hv'
      have hel := enc_len xs k
      have hm8 : m ≤ 8388608 := by omega
      have HL := Lib.hid hl
      have HO := Lib.hid hown
      have hbz := BR.out.size
      clear hv' hl hcm hAn hown hel B1
      go_wp2_with (at_builtin; refine wpList_append_bs (by rfl) _ _ 22 rfl w.heap.size 5 i0 (.int .u8 0) Try.underlying22 hi0 hz0 hz1 hz2 rfl (.slice A m c) m (bv (enc xs k)) rfl HO.out A2 n2 c2 l2 rfl H2.out wr.heap.size (HB.out _ BR.out) HA2.out (by omega) hbz ?_; intro v w2 hown2 hg2; obtain ⟨A3, c3, rfl, hl3, hn3, hc3, hA3, hbs3, _⟩ := own_bs (l := enc xs k ++ l2) (by simpa only [bv_append] using hown2); have B2 : Hid (Below w.heap.size w w2) := Lib.hid (BR.out.grown hg2 hbz (fun j hj => (HO.out.lt j hj).1)); clear hown2 hg2; have HL3 := Lib.hid hl3; have HA3 := Lib.hid hA3; clear hl3 hA3)
      refine (read_any A3 (enc xs k ++ l2) (m + n2) c3 w2 HL3.out (by omega) _ hbs3 HA3.out).mono ?_
      rintro e w3 ⟨g, rfl, hg, hR, hb3⟩
      have B3 : Hid (Below w.heap.size w w3) := Lib.hid (B2.out.trans (hb3.mono B2.out.size))
      have hgw : w.heap.size ≤ g := Nat.le_trans B2.out.size hg
      clear hb3 hbs3 hg
      have hlen : (enc xs k ++ l2).length ≤ 140737488355328 := by rw [HL3.out]; omega
      have hR0 : Rdr w3 g (enc xs k ++ l2) (enc xs 0).length 0 := hR
      have HRR := Lib.hid hR0
      clear hR hR0
      go_wp2_with fail
      go_loopw [44] (fun i wq => ∃ (j : Nat), j ≤ k ∧ i = .int .i64 j ∧ Rdr wq g (enc xs k ++ l2) (enc xs j).length 0 ∧ Hid (Below w.heap.size w wq)) (fun i _ => k - (intOf i).toNat)
      case atStart => exact ⟨0, by omega, rfl, HRR.out, B3⟩
      case round =>
        obtain ⟨wq, rfl⟩ : ∃ wq : World, wq = wr := ⟨_, rfl⟩
        obtain ⟨j, hj, rfl, hRj, BQ⟩ := hrel
        clear HRR HO
        by_cases hlt2 : j < k
        · have hj' : j < xs.length := by rw [H1.out]; exact hlt2
          obtain ⟨ba, oa, rfl, hba, hca⟩ := (HA.out _ BQ.out) (by omega)
          have hx1 := hca j hj'
          have hxin : InU64 (xs.getD j 0) := HIN.out _ (by simp [List.getD_eq_getElem?_getD, hj'])
          have HS := Lib.hid (step_num xs l2 k j hlt2)
          clear hca
          generalize xs.getD j 0 = x at hx1 hxin HS
          have h3 : j % 3 = 0 ∨ j % 3 = 1 ∨ j % 3 = 2 := by omega
          rcases h3 with h3 | h3 | h3
          · have t0 : (((j : Int) % 3) == 0) = true := by simp; omega
            have hst : Oct.step (enc xs k ++ l2) (enc xs j).length 0 8 = (Wd.hi 8 x, (enc xs (j + 1)).length, 0) := by
              have := HS.out
              rwa [encW0 h3] at this
            have hc := u64_any g (enc xs k ++ l2) (enc xs j).length 0 wq hRj
            unfold Numbered at hc
            rw [hst] at hc
            simp only [] at hc
            have hv : ((num (Wd.hi 8 x) : Nat) : Int) = (x : Int) := by rw [num_hi, Nat.mod_eq_of_lt hxin]
            rw [hv] at hc
            have HC := Lib.hid hc
            clear hc hst h3 hv HS
            go_wp2_with fail
            refine HC.out.mono ?_
            rintro e wz ⟨rfl, hR2, hg2⟩
            have BQ2 : Hid (Below w.heap.size w wz) := (show Below _ _ _ from BQ.out.grown hg2 BQ.out.size (fun j hj => by simp at hj; omega))
            clear hg2
            go_wp2_with fail
            go_roundw
            case rel => exact ⟨j + 1, by omega, by go_num, hR2, BQ2⟩
            case measure => simp [intOf]; omega
          · have t0 : (((j : Int) % 3) == 0) = false := by simp; omega
            have t1 : (((j : Int) % 3) == 1) = true := by simp; omega
            have hst : Oct.step (enc xs k ++ l2) (enc xs j).length 0 4 = (Wd.hi 4 x, (enc xs (j + 1)).length, 0) := by
              have := HS.out
              rwa [encW1 h3] at this
            have hc := u32_any g (enc xs k ++ l2) (enc xs j).length 0 wq hRj
            rw [hst] at hc
            simp only [] at hc
            have hv : ((num (Wd.hi 4 x) : Nat) : Int) = (x : Int) % 4294967296 := by rw [num_hi]; simp
            rw [hv] at hc
            have HC := Lib.hid hc
            clear hc hst h3 hv HS
            go_wp2_with fail
            refine HC.out.mono ?_
            rintro e wz ⟨rfl, hR2, hg2⟩
            have BQ2 : Hid (Below w.heap.size w wz) := (show Below _ _ _ from BQ.out.grown hg2 BQ.out.size (fun j hj => by simp at hj; omega))
            clear hg2
            go_wp2_with fail
            go_roundw
            case rel => exact ⟨j + 1, by omega, by go_num, hR2, BQ2⟩
            case measure => simp [intOf]; omega
          · have t0 : (((j : Int) % 3) == 0) = false := by simp; omega
            have t1 : (((j : Int) % 3) == 1) = false := by simp; omega
            have hst : Oct.step (enc xs k ++ l2) (enc xs j).length 0 2 = (Wd.hi 2 x, (enc xs (j + 1)).length, 0) := by
              have := HS.out
              rwa [encW2 h3] at this
            have hc := u16_any g (enc xs k ++ l2) (enc xs j).length 0 wq hRj
            rw [hst] at hc
            simp only [] at hc
            have hv : ((num (Wd.hi 2 x) : Nat) : Int) = IntKind.u16.wrap (x : Int) := by rw [num_hi, IntKind.wrap_u16]; simp
            rw [hv] at hc
            have HC := Lib.hid hc
            clear hc hst h3 hv HS
            go_wp2_with fail
            refine HC.out.mono ?_
            rintro e wz ⟨rfl, hR2, hg2⟩
            have BQ2 : Hid (Below w.heap.size w wz) := (show Below _ _ _ from BQ.out.grown hg2 BQ.out.size (fun j hj => by simp at hj; omega))
            clear hg2
            go_wp2_with fail
            go_roundw
            case rel => exact ⟨j + 1, by omega, by go_num, hR2, BQ2⟩
            case measure => simp [intOf]; omega
        · obtain rfl : j = k := by omega
          have hraw := raw_any g (enc xs j ++ l2) (enc xs j).length 0 (n2 : Int) wq hRj hlen
          rw [step_end xs l2 j n2 (by rw [H2.out])] at hraw
          simp only [] at hraw
          have HW := Lib.hid hraw
          clear hraw hlen
          go_wp2_with fail
          refine HW.out.mono ?_
          rintro e wz ⟨A4, m4, c4, rfl, k4, hA4, hbs4, hR4, hg4, _⟩
          have BZ : Hid (Below w.heap.size w wz) := (show Below _ _ _ from BQ.out.grown hg4 BQ.out.size (fun j hj => by simp at hj; omega))
          clear hA4 hg4
          have heq := equal_n A4 A2 l2 l2 c4 c2 m4 n2 wz k4.out H2.out (by rw [← k4.out, H2.out]; omega) _ _ hbs4 (HB.out _ BZ.out)
          rw [decide_eq_true rfl] at heq
          have HEQ := Lib.hid heq
          clear heq hbs4
          go_wp2_with fail
          refine HEQ.out.mono ?_
          rintro e wy ⟨rfl, rfl⟩
          go_wp2_with fail
          refine (left_any g _ _ (m + n2) 0 wz hR4 HL3.out).mono ?_
          rintro e wy ⟨rfl, q, rfl⟩
          have HL4 : Hid (((enc xs j ++ l2).length : Int) = (m : Int) + (n2 : Int)) := (show _ = _ by rw [HL3.out]; simp)
          rw [HL4.out]
          go_wp2_with fail
          refine (err_any g _ _ 0 _ (hR4.drewN q)).mono ?_
          rintro e wx ⟨rfl, rfl⟩
          go_wp2
          go_ret
          exact ⟨rfl, below_still BZ.out ⟨q, rfl⟩⟩

theorem resT_OctetBack : Try.f7.resultTypes = #[4] := by kernel_rfl
set_option maxRecDepth 100000 in
theorem lifted_OctetBack (os : Os) (started : os.Started) (H : Type) (enc : TypeId × Value → H) (F : Stop.Interp) :
    ReturnsInHanded {} Try.checked os 7 .any ((Rows.OpenSpec.upto Rows.octetBackSpec).pre6 enc Try.prog Try.f7 Rows.octetBackUptoRow.domain false) (((Rows.OpenSpec.upto Rows.octetBackSpec).at F).post enc Try.prog Try.f7 false true false false) := by
  refine Lift.law_lift_upto (C := Try.checked) (s := Rows.octetBackSpec) (tb := 4) F own laidOut started (by kernel_rfl) Try.func7
    (OpenSpec.witness (enc := enc) (C := Try.checked) (s := Rows.OpenSpec.upto Rows.octetBackSpec) (k := Rows.uptoSmall) rfl false ⟨#[], #[.slice none 0 0, .slice none 0 0], []⟩ 8 (by kernel_rfl) (by kernel_rfl) (by kernel_rfl)
      (x := ([.nil, .nil], [], [])) (by kernel_rfl) rfl (by kernel_rfl))
    rfl resT_OctetBack Try.underlying4 (by
      have hr : ∀ t ∈ ([56, 22] : List TypeId), Try.prog.readableRec t = true ∧ t < Try.prog.types.size := by
        intro t ht
        simp only [List.mem_cons, List.not_mem_nil, or_false] at ht
        rcases ht with rfl | rfl <;> exact ⟨by kernel_rfl, of_decide_eq_true (by kernel_rfl)⟩
      intro t ht
      exact hr t (by
        have ht' : t ∈ Try.f7.params.toList := ht
        rw [Try.params7] at ht'
        exact ht')) ?_
  intro W base args ds p hval0 hA0 hk
  have hval : ∀ (j : Nat) t v, Try.f7.params[j]? = some t → args[j]? = some v → Value.okWide Try.prog W .any base t v := hval0
  have hA : DataW.TrodAll enc Try.prog W 0 (fun _ => true) true Try.f7.params.toList args.toList ds p := hA0
  clear hval0 hA0
  rw [Try.params7] at hA hval
  obtain ⟨v0, vs0, d0, ds0, p0, q0, hargs, rfl, rfl, h0, r0⟩ := trodAll_cons hA
  obtain ⟨v1, vs1, d1, ds1, p1, q1, rfl, rfl, rfl, h1, r1⟩ := trodAll_cons r0
  obtain ⟨rfl, rfl, rfl⟩ := trodAll_nil r1
  obtain rfl : args = #[v0, v1] := by cases args; simp_all
  obtain ⟨A0, len0, cap0, xs0, rfl, hl0, hlc0, hcm0, hn0, hb0, hx0, hd0⟩ := Lift.open_u64s Try.underlying56 Try.underlying23 (by kernel_rfl) (hval 0 56 v0 rfl rfl) h0
  have hc0 : cap0 ≤ 1048576 := Lift.bulk_cap hk (d := d0) (by simp) hd0
  obtain ⟨A1, len1, cap1, l1, rfl, hl1, hlc1, hcm1, hn1, hb1, hd1⟩ := Lift.open_bytes Try.underlying22 Try.underlying5 (by kernel_rfl) (hval 1 22 v1 rfl rfl) h1
  have hc1 : cap1 ≤ 1048576 := Lift.bulk_cap hk (d := d1) (by simp) hd1
  exact ⟨rfl, walk A0 A1 len0 len1 cap0 cap1 xs0 l1 W hl0 hl1 (by omega) (by omega) hb0 hb1 hn1 hx0⟩

theorem proved_OctetBack : Rows.OctetBackUptoSaid :=
  OpenClaim.holds_of_cond 7 Try.f7 rfl rfl rfl rfl rfl rfl rfl ⟨rfl, rfl, rfl, rfl, rfl⟩ rfl rfl rfl rfl rfl (by kernel_rfl) Try.func7 (by kernel_rfl)
    (of_decide_eq_true (by kernel_rfl)) (by unfold Func.isWrapper; first | (rw [if_pos (by decide +kernel)]; kernel_rfl) | (rw [if_neg (by decide +kernel)]; exact ⟨rfl, rfl⟩))
    (fun os started H enc _ F => lifted_OctetBack os started H enc F)
end Go.Proofs.Ytihphbeehadgmaa.OctBack
