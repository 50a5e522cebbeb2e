/-
  slices.Chunk over the bytes of a page, by its contract.
-/
import Derived.Test.YtnljhopikjkflaaDoorPgL
import Derived.Test.YtnljhopikjkflaaDoorInR
namespace Go.Proofs.YtnljhopikjkflaaDoor.Pg
set_option maxRecDepth 100000
open Go.RowKit Go.Proofs.YtnljhopikjkflaaDoor.Wd Go.Proofs.YtnljhopikjkflaaDoor.Oct Go.Proofs.YtnljhopikjkflaaDoor.Dsk Go.Proofs.YtnljhopikjkflaaDoor.Rec Go.Proofs.YtnljhopikjkflaaDoor.Sum Go.Proofs.YtnljhopikjkflaaDoor.Sm

attribute [local go_sem] Oper.semAt_some

/-- the number of a sector -/
abbrev Q4 := { q : Nat // q < 4 }
/-- what a round is given -/
def encC (g : Nat) (x : Q4) : Array Value := #[.slice (some ⟨g, 64 * x.1, none⟩) 64 64]
def sq4 (j : Nat) : Q4 := ⟨min j 3, by omega⟩
def upto4 (k : Nat) : List Q4 := (List.range k).map sq4
theorem upto4_succ (k : Nat) : upto4 (k + 1) = upto4 k ++ [sq4 k] := by simp [upto4, List.range_succ]
theorem upto4_len (k : Nat) : (upto4 k).length = k := by simp [upto4]
/-- blocks of K lie as they lay -/
def KeepB (K : Nat → Prop) (W W' : World) : Prop := ∀ k, K k → W'.heap[k]? = W.heap[k]?
theorem KeepB.trans {K : Nat → Prop} {A B C : World} (h : KeepB K A B) (k : KeepB K B C) : KeepB K A C := fun i hi => (k i hi).trans (h i hi)
theorem KeepB.cell {K : Nat → Prop} {W W' : World} {b o : Nat} {v : Value} (h : KeepB K W W') (hb : K b) (hc : W.cell? ⟨b, o, none⟩ = some v) : W'.cell? ⟨b, o, none⟩ = some v := (World.cell?_of_block (a := ⟨b, o, none⟩) (h b hb)).trans hc

set_option maxHeartbeats 4000000 in
theorem chunk_in (l Bs Bn g cap : Nat) (hcap : 256 ≤ cap) (hcm : cap ≤ maxLen) (nn : Nat) (hnn : 1 ≤ nn) (K : Nat → Prop) (hBs : K Bs) (hBn : K Bn) (J Jx : List Q4 → World → Prop) (hJd : ∀ s W, J s W → J s W.drew)
    (hY : ∀ pre x W, J pre W → pre.length < 4 → YieldAt Fence.wide (nn - 1) Tryd.prog l (encC g x) W fun e W' =>
      (e = .returned (.bool true) ∧ J (pre ++ [x]) W' ∧ KeepB K W W') ∨ (e = .returned (.bool false) ∧ Jx (pre ++ [x]) W'))
    (W : World) (hb : W.cell? ⟨Bs, 0, none⟩ = some (.slice (some ⟨g, 0, none⟩) 256 cap)) (hn : W.cell? ⟨Bn, 0, none⟩ = some (.int .i64 64)) (h0 : J [] W) :
    CallsIn Fence.wide nn Tryd.prog 43 #[.func (.yield l) #[] #[], .pointer (some ⟨Bs, 0, none⟩), .pointer (some ⟨Bn, 0, none⟩)] W fun e W' => (∃ v, e = .returned v) ∧
      ((∃ ys, ys = upto4 4 ∧ J ys W') ∨ (∃ pre, True ∧ Jx pre W')) := by
  have HY := Lib.hid hY
  have HJ := Lib.hid hJd
  have HCAP := Lib.hid hcap
  unfold maxLen at hcm
  clear hY hJd
  refine callsIn_of_wp Tryd.func43 rfl trivial ?_ rfl
  simp only [Tryd.ntmps43, List.size_toArray, List.length_cons, List.length_nil, Nat.reduceAdd, Nat.reduceSub, Array.replicate_succ, Array.replicate_zero, List.push_toArray, List.append_toArray, List.nil_append, List.cons_append]
  gi_wp2
  gi_loopw [4] (fun i wr => ∃ k : Nat, k ≤ 4 ∧ i = .int .i64 ((64 * k : Nat) : Int) ∧ J (upto4 k) wr ∧ Hid (KeepB K W wr)) (fun i _ => 256 - (intOf i).toNat)
  case atStart => exact ⟨0, by omega, rfl, h0, (show KeepB _ _ _ from fun _ _ => rfl)⟩
  case round =>
    obtain ⟨k, hk, rfl, hJs, HK⟩ := hrel
    have hb2 := HK.out.cell hBs hb
    have hn2 := HK.out.cell hBn hn
    by_cases hlt : k < 4
    case neg =>
      obtain rfl : k = 4 := by omega
      have e4 : ((64 * 4 : Nat) : Int) = 256 := rfl
      rw [e4]
      gi_wp2
      go_end0
      exact ⟨⟨_, rfl⟩, .inl ⟨_, rfl, hJs⟩⟩
    case pos =>
      obtain ⟨i, hi⟩ : ∃ i, i = 64 * k := ⟨_, rfl⟩
      have hi256 : i + 64 ≤ 256 := by omega
      have hilt : (i : Int) < 256 := by omega
      have hile : (i : Int) ≤ 256 := by omega
      have hci : ¬ cap = i := by omega
      have hicap : (i : Int) + 64 ≤ (cap : Int) := by omega
      have HI := Lib.hid hi
      rw [← hi]
      clear hi
      have HB2 := Lib.hid hb2
      have HN2 := Lib.hid hn2
      gi_wp2_with fail
      refine wpIn_wide.2 ?_
      refine wp_region_held_drew (S := fun w' : World => w'.cell? ⟨Bs, 0, none⟩ = some (.slice (some ⟨g, 0, none⟩) 256 cap) ∧ w'.cell? ⟨Bn, 0, none⟩ = some (.int .i64 64)) (by kernel_rfl) ⟨HB2.out, HN2.out⟩ (fun hHeld => ?_)
      have S0 := Lib.hid hHeld
      clear hHeld
      refine wpAnyH_take (i := 0) (oi := ⟨some 13, _, _, _, _, _⟩) (v := ?vh1) rfl (by kernel_rfl) (by kernel_rfl) (by kernel_rfl) (fun _ _ _ h => h) (Or.inl ⟨by rfl, ?yh1⟩) S0.out ?rh1
      case yh1 =>
        rintro w' hSw
        have k0 := hSw.2
        go_simp
        try with_reducible rfl
      try simp only [Act.put, List.setIfInBounds_toArray, List.set_cons_zero, List.set_cons_succ]
      refine wpAnyH_take (i := 1) (oi := ⟨some 14, _, _, _, _, _⟩) (v := ?vh2) rfl (by kernel_rfl) (by kernel_rfl) (by kernel_rfl) (fun _ _ _ h => h) (Or.inl ⟨by rfl, ?yh2⟩) S0.out ?rh2
      case yh2 =>
        rintro w' hSw
        have k0 := hSw.1
        go_simp
        try with_reducible rfl
      try simp only [Act.put, List.setIfInBounds_toArray, List.set_cons_zero, List.set_cons_succ]
      refine wpAnyH_take (i := 2) (oi := ⟨some 15, _, _, _, _, _⟩) (v := ?vh3) rfl (by kernel_rfl) (by kernel_rfl) (by kernel_rfl) (fun _ _ _ h => h) (Or.inl ⟨by rfl, ?yh3⟩) S0.out ?rh3
      case yh3 =>
        rintro w' hSw
        go_simp
        try with_reducible rfl
      try simp only [Act.put, List.setIfInBounds_toArray, List.set_cons_zero, List.set_cons_succ]
      refine wpAnyH_take (i := 3) (oi := ⟨some 16, _, _, _, _, _⟩) (v := ?vh4) rfl (by kernel_rfl) (by kernel_rfl) (by kernel_rfl) (fun _ _ _ h => h) (Or.inl ⟨by rfl, ?yh4⟩) S0.out ?rh4
      case yh4 =>
        rintro w' hSw
        go_simp
        try with_reducible rfl
      try simp only [Act.put, List.setIfInBounds_toArray, List.set_cons_zero, List.set_cons_succ]
      refine wpAnyH_take (i := 4) (oi := ⟨some 17, _, _, _, _, _⟩) (v := ?vh5) rfl (by kernel_rfl) (by kernel_rfl) (by kernel_rfl) (fun _ _ _ h => h) (Or.inl ⟨by rfl, ?yh5⟩) S0.out ?rh5
      case yh5 =>
        rintro w' hSw
        go_simp
        try with_reducible rfl
      try simp only [Act.put, List.setIfInBounds_toArray, List.set_cons_zero, List.set_cons_succ]
      refine wpAnyH_take (i := 5) (oi := ⟨some 18, _, _, _, _, _⟩) (v := ?vh6) rfl (by kernel_rfl) (by kernel_rfl) (by kernel_rfl) (fun _ _ _ h => h) (Or.inl ⟨by rfl, ?yh6⟩) S0.out ?rh6
      case yh6 =>
        rintro w' hSw
        go_simp
        try with_reducible rfl
      try simp only [Act.put, List.setIfInBounds_toArray, List.set_cons_zero, List.set_cons_succ]
      refine wpAnyH_take (i := 6) (oi := ⟨some 5, _, _, _, _, _⟩) (v := ?vh7) rfl (by kernel_rfl) (by kernel_rfl) (by kernel_rfl) (fun _ _ _ h => h) (Or.inl ⟨by rfl, ?yh7⟩) S0.out ?rh7
      case yh7 =>
        rintro w' hSw
        go_simp
        try with_reducible rfl
      try simp only [Act.put, List.setIfInBounds_toArray, List.set_cons_zero, List.set_cons_succ]
      refine wpAnyH_done (by kernel_rfl) ?_ _
      have hb3 := S0.out.1
      have hn3 := S0.out.2
      have hJ2 := HJ.out _ _ hJs
      have HK2 : Hid (KeepB K W wr.drew) := HK.out
      have hyl : (upto4 k).length < 4 := by rw [upto4_len]; exact hlt
      obtain ⟨fn, tmps, assign, body, hy, hR⟩ := HY.out _ (sq4 k) wr.drew hJ2 hyl
      have hen : encC g (sq4 k) = #[.slice (some ⟨g, i, none⟩) 64 64] := by
        have h3 : min k 3 = k := by omega
        have hi := HI.out
        simp [encC, sq4, h3, hi]
      rw [hen] at hy
      rw [← upto4_succ] at hR
      clear S0 HB2 HN2 hb2 hn2 hJs hJ2 hyl hen HK
      generalize wr.drew = wd at *
      gi_wp2_with fail
      refine hR.mono ?_
      rintro e W3 (⟨rfl, hJ3, hk3⟩ | ⟨rfl, hJx3⟩)
      · have HK3 := Lib.hid (HK2.out.trans hk3)
        have hn4 := HK3.out.cell hBn hn
        clear hk3 HK2 hR hy hb3 hn3
        gi_wp2
        go_roundw
        case rel => exact ⟨k + 1, by omega, (by have := HI.out; congr 1; omega), hJ3, HK3⟩
        case measure => simp [intOf]; omega
      · gi_wp2
        refine bodyPost_ret (results_none rfl _ _ _) rfl ?_
        exact ⟨⟨_, rfl⟩, .inr ⟨_, trivial, hJx3⟩⟩

theorem chunk_any (A : Option Addr) (n c : Nat) (w : World) : Calls Tryd.prog 22 #[.slice A n c, .int .i64 64] w fun e w' =>
    e = .returned (.func (.func 43) #[] #[.pointer (some ⟨w.heap.size, 0, none⟩), .pointer (some ⟨w.heap.size + 1, 0, none⟩)]) ∧ w' = (w.alloc (.cells #[.slice A n c] 23)).alloc (.cells #[.int .i64 64] 3) := by
  have hmf : ∀ (fn : Fn) (first cap : Array Value) (w : World), (Instr.makeFunc fn first cap).run Tryd.prog w = .ok (.func fn first cap) w := fun _ _ _ _ => rfl
  go_enter Tryd.func22, Tryd.ntmps22
  go_wp2
  go_ret
  exact ⟨rfl, rfl⟩
end Go.Proofs.YtnljhopikjkflaaDoor.Pg
