/-
  The contract of Pending.
-/
import Derived.Test.YtbfpadilcfelbaaDev6
namespace Go.Proofs.Ytbfpadilcfelbaa.Dsk
open Go.RowKit Go.Proofs.Ytbfpadilcfelbaa.Wd

theorem flatm_get {α : Type} (m : Nat) : ∀ (ls : List (List α)) (i j : Nat), (∀ b ∈ ls, b.length = m) → i < ls.length → j < m → ls.flatten[i * m + j]? = (ls.getD i [])[j]?
  | [], i, j, _, hi, _ => by simp at hi
  | l :: ls, 0, j, h, _, hj => by
    have h0 := h l (by simp)
    simp [List.getElem?_append_left (by omega : j < l.length)]
  | l :: ls, i + 1, j, h, hi, hj => by
    have h0 := h l (by simp)
    have := flatm_get m ls i j (fun b hb => h b (by simp [hb])) (by simpa using hi) hj
    have e : (i + 1) * m = i * m + m := by rw [Nat.add_mul, Nat.one_mul]
    rw [List.flatten_cons, List.getElem?_append_right (by omega), h0, show (i + 1) * m + j - m = i * m + j by omega, this]
    simp
def noWrite : Int × List UInt8 × List UInt8 := (0, [], [])
theorem DskAt.pend_range {w : World} {F : Nat → Prop} {g gs c : Nat} {A : Option Addr} {d : DM} (h : DskAt w F g gs A c d) {k : Nat} (hk : k < d.pend.length) :
    ∃ gp, A = some ⟨gp, 0, none⟩ ∧ w.rangeAt gp (k * 129) (pcs (d.pend.getD k noWrite)) ∧ gp < w.heap.size ∧ F gp ∧ gp ≠ gs := by
  have hp := h.pend
  rcases hp.2 with ⟨_, h0⟩ | ⟨gp, cap, cur, hv, hb, hg, _⟩
  · omega
  · have hA : A = some ⟨gp, 0, none⟩ := by simp only [Value.slice.injEq] at hv; exact hv.1
    subst hA
    have ho := h.own gp rfl
    refine ⟨gp, rfl, fun j v hj => ?_, (Array.getElem?_eq_some_iff.1 hg).1, ho.1, ho.2.2⟩
    have hc := World.ownsRow.cells hp (g := gp) rfl (k * 129 + j) v
    rw [Addr.add_lit, Nat.zero_add] at hc
    refine hc ?_
    have hall : ∀ b ∈ d.pend.map pcs, b.length = 129 := fun b hb => by
      obtain ⟨p, hp, rfl⟩ := List.mem_map.1 hb
      have := h.good.pend p hp
      exact pcs_len p this.2.2.1 this.2.2.2
    have hj129 : j < 129 := by
      have h1 := (List.getElem?_eq_some_iff.1 hj).1
      have h2 : (pcs (d.pend.getD k noWrite)).length = 129 := hall _ (List.mem_map.2 ⟨_, by rw [List.getD_eq_getElem?_getD, List.getElem?_eq_getElem hk]; exact List.getElem_mem hk, rfl⟩)
      omega
    have e := flatm_get 129 (d.pend.map pcs) k j hall (by simpa using hk) hj129
    rw [List.flatMap_def, e]
    have e2 : (d.pend.map pcs).getD k [] = pcs (d.pend.getD k noWrite) := by simp [List.getD_eq_getElem?_getD, hk]
    rw [e2]; exact hj
theorem info3 : (Try.prog.info? 3).map (fun i => (i.zero, i.size, i.bytes)) = some (some (.int .i64 0), 1, 8) := by kernel_rfl
theorem size81 : (Try.prog.info? 77).map (·.size) = some 129 := by kernel_rfl
theorem make_ints (n : Nat) (hn : n ≤ 1000000) (u : World) : (Instr.makeSlice 53 (.int .i64 (n : Int)) (.int .i64 (n : Int))).run Try.prog u =
    .ok (.slice (some ⟨u.heap.size, 0, none⟩) n n) (u.alloc (.cells (madeCells #[.int .i64 0] n) 3)) := by
  obtain ⟨i0, hi, hz0, hz1, hz2⟩ := info_parts info3
  have h := run_make (P := Try.prog) u 53 3 i0 (.int .i64 0) Try.underlying53 hi hz0 .i64 .i64 (n : Int) (n : Int) (by omega) (Int.le_refl _) (by rw [hz2]; omega) (by omega)
  rw [hz1, Int.toNat_natCast, Nat.mul_one] at h
  exact h
theorem zero81v (u : World) : (zeroValue 77).run Try.prog u = .ok (.agg (pcs (0, nought, nought)).toArray) u := by kernel_rfl

theorem pending_nil (w : World) : Calls Try.prog 19 #[.pointer none] w fun e w' => e = .returned (.slice none 0 0) ∧ w' = w := by
  go_enter Try.func19, Try.ntmps19
  go_wp2
  go_ret
  exact ⟨rfl, rfl⟩
def pints (d : DM) : List Value := d.pend.map fun p => .int .i64 p.1

set_option maxRecDepth 100000 in
set_option maxHeartbeats 2000000 in
theorem pending_any (g : Nat) (d : DM) (F : Nat → Prop) (w : World) (h : Disk w F g d) (hp : d.pend.length ≤ 1000000) :
    Calls Try.prog 19 #[.pointer (some ⟨g, 0, none⟩)] w fun e w' => e = .returned (.slice (some ⟨w.heap.size, 0, none⟩) d.pend.length d.pend.length) ∧ Row w' w.heap.size 3 (pints d) ∧ Below w.heap.size w w' := by
  obtain ⟨⟨gs, A, c, h⟩, hF⟩ := h
  have c1 : w.cell? ⟨g, 1, none⟩ = some (.slice A d.pend.length c) := h.row.cell 1
  obtain ⟨n, hn⟩ : ∃ n, n = d.pend.length := ⟨_, rfl⟩
  have hall : ∀ p ∈ d.pend, (pcs p).length = 129 := fun p hp => pcs_len p (h.good.pend p hp).2.2.1 (h.good.pend p hp).2.2.2
  have hr : ∀ k, k < d.pend.length → ∃ gp, A = some ⟨gp, 0, none⟩ ∧ w.rangeAt gp (k * 129) (pcs (d.pend.getD k noWrite)) ∧ gp < w.heap.size ∧ (pcs (d.pend.getD k noWrite)).length = 129 := fun k hk => by
    obtain ⟨gp, h1, h2, h3, _⟩ := h.pend_range hk
    refine ⟨gp, h1, h2, h3, hall _ ?_⟩
    rw [List.getD_eq_getElem?_getD, List.getElem?_eq_getElem hk]; exact List.getElem_mem hk
  have HR := Lib.hid hr
  rw [← hn] at c1 hp ⊢
  have HN := Lib.hid hn
  have c1' : (w.alloc (.cells (madeCells #[.int .i64 0] n) 3)).cell? ⟨g, 1, none⟩ = some (.slice A n c) := (World.cell?_alloc_lt w _ ⟨g, 1, none⟩ h.row.lt).trans c1
  have hmk := make_ints n hp
  have hz := zero81v
  have hp63 : pints d = (d.pend.map fun p => Value.int .i64 p.1) := rfl
  obtain ⟨L, hL⟩ : ∃ L, L = pints d := ⟨_, rfl⟩
  have hLn : L.length = n := by rw [hL, hn, pints]; simp
  have hLk : ∀ k, k < n → L[k]? = some (.int .i64 (d.pend.getD k noWrite).1) := fun k hk => by
    have hk' : k < d.pend.length := by omega
    rw [hL, pints, List.getElem?_map, List.getElem?_eq_getElem hk']
    simp [List.getD_eq_getElem?_getD, hk']
  rw [← hL]
  have HLN := Lib.hid hLn
  have HLK := Lib.hid hLk
  clear h hF hr hn hall hp63 hL hLn hLk
  go_enter Try.func19, Try.ntmps19
  go_wp2
  go_loopw [19] (fun i wr => ∃ k : Nat, k ≤ n ∧ i = .int .i64 k ∧ Row wr w.heap.size 3 (L.take k ++ List.replicate (n - k) (.int .i64 0)) ∧ Hid (Below w.heap.size w wr)) (fun i _ => n - (intOf i).toNat)
  case atStart =>
    refine ⟨0, by omega, rfl, ?_, (show Below _ _ _ from (Below.refl _ _).alloc (Nat.le_refl _) _)⟩
    simpa using Row.made w 3 (.int .i64 0) n
  case round =>
    obtain ⟨k, hk, rfl, h1, hbel⟩ := hrel
    by_cases hlt : k < n
    · obtain ⟨gp, rfl, hrg, hgp, h129⟩ := HR.out k (by rw [← HN.out]; exact hlt)
      have hrg2 := range_below hrg hbel.out hgp
      have hLk := HLK.out k hlt
      obtain ⟨p, hpk⟩ : ∃ p, p = d.pend.getD k noWrite := ⟨_, rfl⟩
      rw [← hpk] at hrg2 h129 hLk
      have HRG := Lib.hid hrg2
      have HS := Lib.hid (show (Try.prog.info? 77).map (·.size) = some (pcs p).length by rw [h129]; exact size81)
      have hlen := h1.lt
      have RN := Lib.hid (Row.new wr 77 (pcs (0, nought, nought)))
      have HF : Hid (0 + (pcs p).length ≤ (pcs (0, nought, nought)).length) := (show _ ≤ _ by rw [h129]; exact Nat.le_refl _)
      have HLk := Lib.hid hLk
      clear hrg hrg2 hpk hLk
      go_wp2_with (first
        | (with_reducible refine wpList_load_mid (op := ⟨some 23, _, _, _, _, _⟩) ?_ 77 (.tmp 22) ?_ gp (k * 129) ?_ (pcs p) _ HRG.out Try.underlying77 ?_ HS.out ?_)
        | (with_reducible refine wpList_store_in (op := ⟨none, _, _, _, _, _⟩) ?_ 77 (.tmp 5) (.tmp 23) ?_ wr.heap.size 0 (pcs p) ?_ ?_ 77 (pcs (0, nought, nought)) RN.out HF.out (pcs_one p) HS.out ?_))
      all_goals try (first | rfl | (simp; done))
      intro w5 hr5 hg5
      have hr6 : Row w5 wr.heap.size 77 (pcs p) := by rwa [splice_all _ _ (by rw [h129]; rfl)] at hr5
      have q0 : w5.cell? ⟨wr.heap.size, 0, none⟩ = some (.int .i64 p.1) := hr6.cell 0
      have h2 := Row.grown (h1.alloc (.cells (pcs (0, nought, nought)).toArray 77)) hg5 (by simp; omega)
      have hb5 : Below w.heap.size w w5 := (hbel.out.alloc (by omega) _).grown hg5 (by simp; omega) (fun j hj => by have := Option.some.inj hj; omega)
      have q1 : w5.cell? ⟨w.heap.size, k, none⟩ = some (.int .i64 0) := by
        rw [h2.cell, List.getElem?_append_right (by rw [List.length_take, HLN.out]; omega), List.length_take, HLN.out, show k - min k n = 0 by omega, List.getElem?_replicate, if_pos (by omega)]
      have q2 := h2.frozen k
      have H2 := Lib.hid h2
      have HB5 := Lib.hid hb5
      clear hr5 hg5 h1 hbel h2 hb5 hr6
      go_wp2
      go_roundw
      case rel =>
        refine ⟨k + 1, by omega, by go_num, ?_, (show Below _ _ _ from HB5.out.setCell (Nat.le_refl _) _)⟩
        have h3 := H2.out.store k (.int .i64 p.1)
        have e : (L.take k ++ List.replicate (n - k) (Value.int .i64 0)).set k (.int .i64 p.1) = L.take (k + 1) ++ List.replicate (n - (k + 1)) (.int .i64 0) := by
          have hl : (L.take k).length = k := by rw [List.length_take, HLN.out]; omega
          have hkl : k < L.length := by rw [HLN.out]; exact hlt
          rw [List.set_append_right _ _ (by omega), hl, Nat.sub_self, show n - k = (n - (k + 1)) + 1 by omega, List.replicate_succ, List.set_cons_zero, List.take_succ_eq_append_getElem hkl, List.append_assoc]
          have : L[k] = .int .i64 p.1 := by have := HLk.out; rw [List.getElem?_eq_getElem hkl] at this; exact Option.some.inj this
          rw [this]; rfl
        rw [← e]; exact h3
      case measure => simp [intOf]; omega
    · obtain rfl : k = n := by omega
      rw [List.take_of_length_le (by rw [HLN.out]; exact Nat.le_refl _), Nat.sub_self, List.replicate_zero, List.append_nil] at h1
      go_wp2
      go_ret
      exact ⟨rfl, h1, hbel.out⟩
end Go.Proofs.Ytbfpadilcfelbaa.Dsk
