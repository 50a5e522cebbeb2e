/-
  slices.Backward over pending writes, by its contract.
-/
import Derived.Test.YtbfpadilcfelbaaDevC0
namespace Go.Proofs.Ytbfpadilcfelbaa.Dsk
open Go.RowKit Go.Proofs.Ytbfpadilcfelbaa.Wd

attribute [local go_sem] Oper.semAt_some

def OkW (m : Nat) (p : Int × List UInt8 × List UInt8) : Prop := 0 ≤ p.1 ∧ p.1 < (m : Int) ∧ p.2.1.length = 64 ∧ p.2.2.length = 64
/-- an index and a write that fits a disk of m sectors -/
abbrev IWr (m : Nat) := { q : Int × (Int × List UInt8 × List UInt8) // OkW m q.2 }
def encW {m : Nat} (x : IWr m) : Array Value := #[.int .i64 x.1.1, .agg (pcs x.1.2).toArray]
def upto {α : Type} (g : Nat → α) (k : Nat) : List α := (List.range k).map g
theorem upto_succ {α : Type} (g : Nat → α) (k : Nat) : upto g (k + 1) = upto g k ++ [g k] := by simp [upto, List.range_succ]
theorem upto_len {α : Type} (g : Nat → α) (k : Nat) : (upto g k).length = k := by simp [upto]
/-- blocks of K lie as they lay -/
def KeepB (K : Nat → Prop) (W W' : World) : Prop := ∀ k, K k → W'.heap[k]? = W.heap[k]?
theorem KeepB.trans {K : Nat → Prop} {A B C : World} (h : KeepB K A B) (k : KeepB K B C) : KeepB K A C := fun i hi => (k i hi).trans (h i hi)
theorem KeepB.cell {K : Nat → Prop} {W W' : World} {b o : Nat} {v : Value} (h : KeepB K W W') (hb : K b) (hc : W.cell? ⟨b, o, none⟩ = some v) : W'.cell? ⟨b, o, none⟩ = some v := (World.cell?_of_block (a := ⟨b, o, none⟩) (h b hb)).trans hc
theorem KeepB.range {K : Nat → Prop} {W W' : World} {b o : Nat} {cs : List Value} (h : KeepB K W W') (hb : K b) (hc : W.rangeAt b o cs) : W'.rangeAt b o cs := fun j v hj => h.cell hb (hc j v hj)

set_option maxRecDepth 100000 in
set_option maxHeartbeats 2000000 in
theorem back_in (l Bs n c m : Nat) (A : Option Addr) (ps : List (Int × List UInt8 × List UInt8)) (hn : n ≤ 1000000) (nn : Nat) (hnn : 1 ≤ nn) (g : Nat → IWr m) (hg : ∀ j, j < n → (g (n - (j + 1))).1 = ((j : Int), ps.getD j noWrite))
    (K : Nat → Prop) (hBs : K Bs) (J Jx : List (IWr m) → World → Prop)
    (hY : ∀ pre x W, J pre W → pre.length < n → YieldAt Fence.wide (nn - 1) Try.prog l (encW x) W fun e W' =>
      (e = .returned (.bool true) ∧ J (pre ++ [x]) W' ∧ KeepB K W W') ∨ (e = .returned (.bool false) ∧ Jx (pre ++ [x]) W'))
    (W : World) (hb : W.cell? ⟨Bs, 0, none⟩ = some (.slice A n c)) (hr : ∀ k, k < n → ∃ gp, A = some ⟨gp, 0, none⟩ ∧ K gp ∧ W.rangeAt gp (k * 129) (pcs (ps.getD k noWrite))) (h0 : J [] W) :
    CallsIn Fence.wide nn Try.prog 49 #[.func (.yield l) #[] #[], .pointer (some ⟨Bs, 0, none⟩)] W fun e W' => (∃ v, e = .returned v) ∧
      ((∃ ys, ys = upto g n ∧ J ys W') ∨ (∃ pre, True ∧ Jx pre W')) := by
  have HR := Lib.hid hr
  have HY := Lib.hid hY
  have HG := Lib.hid hg
  clear hr hY hg
  refine callsIn_of_wp Try.func49 rfl trivial ?_ rfl
  simp only [Try.ntmps49, List.size_toArray, List.length_cons, List.length_nil, Nat.reduceAdd, Nat.reduceSub, Array.replicate_succ, Array.replicate_zero, List.push_toArray, List.append_toArray, List.nil_append, List.cons_append]
  gi_wp2
  gi_loopw [3] (fun i wr => ∃ r : Nat, r ≤ n ∧ i = .int .i64 ((r : Int) - 1) ∧ J (upto g (n - r)) wr ∧ Hid (KeepB K W wr)) (fun i _ => (intOf i + 1).toNat)
  case atStart => exact ⟨n, Nat.le_refl _, rfl, by rw [Nat.sub_self]; exact h0, (show KeepB _ _ _ from fun _ _ => rfl)⟩
  case round =>
    obtain ⟨r, hrn, rfl, hJs, HK⟩ := hrel
    cases r with
    | zero =>
      gi_wp2
      go_end0
      exact ⟨⟨_, rfl⟩, .inl ⟨_, rfl, by simpa using hJs⟩⟩
    | succ j =>
      have ej : ((j + 1 : Nat) : Int) - 1 = (j : Int) := by omega
      rw [ej]
      have hjn : j < n := by omega
      obtain ⟨gp, rfl, hgp, hrg⟩ := HR.out j hjn
      have hrg2 := HK.out.range hgp hrg
      have hb2 := HK.out.cell hBs hb
      have hok : OkW m (ps.getD j noWrite) := by
        have := (g (n - (j + 1))).2
        rw [HG.out j hjn] at this
        exact this
      obtain ⟨fn, tmps, assign, body, hy, hR⟩ := HY.out _ (g (n - (j + 1))) wr hJs (by rw [upto_len]; omega)
      have hnj : n - j = (n - (j + 1)) + 1 := by omega
      have hup : upto g (n - j) = upto g (n - (j + 1)) ++ [g (n - (j + 1))] := by rw [hnj, upto_succ]
      unfold encW at hy
      rw [HG.out j hjn] at hy
      rw [← hup] at hR
      dsimp only at hy
      obtain ⟨p, hp⟩ : ∃ p, p = ps.getD j noWrite := ⟨_, rfl⟩
      rw [← hp] at hrg2 hy hok
      have HS := Lib.hid (show (Try.prog.info? 77).map (·.size) = some (pcs p).length by rw [pcs_len p hok.2.2.1 hok.2.2.2]; exact size81)
      have HRG := Lib.hid hrg2
      have hji : (j : Int) < (n : Int) := by omega
      clear hrg hrg2 hup hp hok hnj
      gi_wp2_with (first
        | (with_reducible refine wpListIn_load_mid (op := ⟨some 16, _, _, _, _, _⟩) ?_ 77 (.tmp 15) ?_ gp (j * 129) ?_ (pcs p) _ HRG.out Try.underlying77 ?_ HS.out ?_))
      all_goals try (first | rfl | (simp; done))
      gi_wp2
      refine hR.mono ?_
      rintro e W3 (⟨rfl, hJ3, hk3⟩ | ⟨rfl, hJx3⟩)
      · have HK3 := Lib.hid (HK.out.trans hk3)
        clear hk3 HK hR hy
        gi_wp2
        go_roundw
        case rel => exact ⟨j, by omega, by go_num, hJ3, HK3⟩
        case measure => simp [intOf]
      · gi_wp2
        refine bodyPost_ret (results_none rfl _ _ _) rfl ?_
        exact ⟨⟨_, rfl⟩, .inr ⟨_, trivial, hJx3⟩⟩

theorem backward_any (A : Option Addr) (n c : Nat) (w : World) : Calls Try.prog 40 #[.slice A n c] w fun e w' =>
    e = .returned (.func (.func 49) #[] #[.pointer (some ⟨w.heap.size, 0, none⟩)]) ∧ w' = w.alloc (.cells #[.slice A n c] 60) := by
  have hmf : ∀ (fn : Fn) (first cap : Array Value) (w : World), (Instr.makeFunc fn first cap).run Try.prog w = .ok (.func fn first cap) w := fun _ _ _ _ => rfl
  go_enter Try.func40, Try.ntmps40
  go_wp2
  go_ret
  exact ⟨rfl, rfl⟩
/-- the writes, each with its index, the last one first -/
theorem back_seq {m : Nat} (ps : List (Int × List UInt8 × List UInt8)) (hp : ∀ p ∈ ps, OkW m p) (hm : 0 < m) : ∃ g : Nat → IWr m, (∀ j, j < ps.length → (g (ps.length - (j + 1))).1 = ((j : Int), ps.getD j noWrite)) ∧ (upto g ps.length).map (fun x => x.1.2) = ps.reverse := by
  have : Inhabited (IWr m) := ⟨⟨(0, (0, nought, nought)), by refine ⟨Int.le_refl _, ?_, rfl, rfl⟩; show (0 : Int) < m; omega⟩⟩
  have each : ∀ i, i < ps.length → ∃ x : IWr m, x.1 = (((ps.length - 1 - i : Nat) : Int), ps.getD (ps.length - 1 - i) noWrite) := fun i hi => by
    have hk : ps.length - 1 - i < ps.length := by omega
    exact ⟨⟨(_, ps.getD (ps.length - 1 - i) noWrite), hp _ (by rw [List.getD_eq_getElem?_getD, List.getElem?_eq_getElem hk]; exact List.getElem_mem hk)⟩, rfl⟩
  obtain ⟨g, hg⟩ := Go.Deep.choose_lt each
  refine ⟨g, fun j hj => ?_, ?_⟩
  · have := hg (ps.length - (j + 1)) (by omega)
    rw [show ps.length - 1 - (ps.length - (j + 1)) = j by omega] at this
    exact this
  · apply List.ext_getElem
    · simp [upto]
    · intro i h1 h2
      have hi : i < ps.length := by simpa [upto] using h1
      have hk : ps.length - 1 - i < ps.length := by omega
      simp only [upto, List.getElem_map, List.getElem_range, List.getElem_reverse]
      rw [hg i hi]
      simp [List.getD_eq_getElem?_getD, hk]
end Go.Proofs.Ytbfpadilcfelbaa.Dsk
