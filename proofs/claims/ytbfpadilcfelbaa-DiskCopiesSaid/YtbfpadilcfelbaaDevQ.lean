/-
  The statements' held and same.
-/
import Derived.Test.YtbfpadilcfelbaaDevP
namespace Go.Proofs.Ytbfpadilcfelbaa.Dsk
open Go.RowKit Go.Proofs.Ytbfpadilcfelbaa.Wd

theorem ownsRow_off {w w' : World} {F : Nat → Prop} {base size n : Nat} {t : TypeId} {v : Value} {xs : List Value} (h : w.ownsRow base t size v n xs) (hn : ∀ k, F k → k < base) (ho : Off F w w') : w'.ownsRow base t size v n xs := by
  rcases h with ⟨hl, hv | ⟨gp, cap, cur, hv, hb, hg, hr⟩⟩
  · exact ⟨hl, .inl hv⟩
  · exact ⟨hl, .inr ⟨gp, cap, cur, hv, hb, (ho.block gp (Array.getElem?_eq_some_iff.1 hg).1 (fun hf => by have := hn gp hf; omega)).trans hg, hr⟩⟩
theorem wpList_buildOne {P : Program} {ops : Array Oper} {rest : List Oper} {o : Oper} {a : Act} {w : World} {Q : Exit → Act → World → Prop} (hgd : o.guard = none) (t e : TypeId) (x : Operand) (ho : o.op = .buildSlice t 1 #[(0, x)])
    (vs zs : List Value) (ie : TypeInfo) (hx : a.eval x = .agg vs.toArray) (hu : P.underlying t = some (.slice e)) (hie : P.info? e = some ie) (hz : ie.zero = some (.agg zs.toArray)) (hs : ie.size = zs.length) (hl : vs.length = zs.length) (hpos : 0 < zs.length) (hn : zs.length ≤ 1000)
    (h : wpList P ops Q rest (a.put o.dst (.slice (some ⟨w.heap.size, 0, none⟩) 1 1)) (w.alloc (.cells vs.toArray e))) : wpList P ops Q (o :: rest) a w :=
  wpList_plain hgd fun _ hK => wp_buildOne t e x ho vs zs ie hx hu hie hz hs hl hpos hn (hK _ _ h)
/-- blocks that a call owns read so -/
theorem own_blks {w : World} {base n : Nat} {v : Value} {L : List (List UInt8)} (h : w.ownsRow base 39 64 v n (bv L.flatten)) (hL : L.length = n) (h64 : ∀ b ∈ L, b.length = 64) :
    ∃ A c, v = .slice A n c ∧ n ≤ c ∧ c ≤ maxLen ∧ (A = none → c = 0) ∧ Blks w w.heap.size A L ∧ (∀ b o s, A = some ⟨b, o, s⟩ → base ≤ b) := by
  rcases h.2 with ⟨rfl, rfl⟩ | ⟨g, cap, cur, rfl, hb, hg, hnc, hcm, hs, ht⟩
  · obtain rfl : L = [] := List.eq_nil_of_length_eq_zero hL
    exact ⟨none, 0, rfl, Nat.le_refl _, Nat.zero_le _, fun _ => rfl, (fun hp => absurd hp (by simp)), fun b o s e => by cases e⟩
  · refine ⟨_, cap, rfl, hnc, hcm, (fun hh => by cases hh), (fun hp => ⟨g, 0, rfl, (Array.getElem?_eq_some_iff.1 hg).1, fun i hi => ?_⟩), fun b o s e => by cases e; exact hb⟩
    have hl : (L.getD i []).length = 64 := h64 _ (by rw [List.getD_eq_getElem?_getD, List.getElem?_eq_getElem hi]; exact List.getElem_mem hi)
    refine ⟨hl, fun j v hj => ?_⟩
    have hj64 : j < 64 := by have := (List.getElem?_eq_some_iff.1 hj).1; rwa [bv_length, hl] at this
    have hc := World.ownsRow.cells h (g := g) rfl (i * 64 + j) v
    rw [Addr.add_lit, Nat.zero_add] at hc
    rw [Nat.zero_add]
    refine hc ?_
    have := flat_get L i j h64 hi hj64
    simp only [bv, List.getElem?_map] at hj ⊢
    rw [this]; exact hj
theorem Blks.below {w w' : World} {B : Nat} {A : Option Addr} {ls : List (List UInt8)} (h : Blks w B A ls) (hb : Below B w w') : Blks w' B A ls := fun hp => by
  obtain ⟨b, o, e, hlt, hr⟩ := h hp
  exact ⟨b, o, e, hlt, fun i hi => ⟨(hr i hi).1, range_below (hr i hi).2 hb hlt⟩⟩
theorem Blks.more {w : World} {B B' : Nat} {A : Option Addr} {ls : List (List UInt8)} (h : Blks w B A ls) (hB : B ≤ B') : Blks w B' A ls := fun hp => by
  obtain ⟨b, o, e, hlt, hr⟩ := h hp
  exact ⟨b, o, e, by omega, hr⟩
theorem Blks.off {w w' : World} {F : Nat → Prop} {B : Nat} {A : Option Addr} {ls : List (List UInt8)} (h : Blks w B A ls) (hB : B ≤ w.heap.size) (ho : Off F w w') (hn : ∀ b o s, A = some ⟨b, o, s⟩ → ¬ F b) : Blks w' B A ls := fun hp => by
  obtain ⟨b, o, e, hlt, hr⟩ := h hp
  exact ⟨b, o, e, hlt, fun i hi => ⟨(hr i hi).1, ho.range (hn b o none e) (hr i hi).2⟩⟩
theorem reads_blk {d : DM} (h : Good d) (k : Nat) : ∀ b ∈ (d.readsM k).2, b.length = 64 := by
  induction k with
  | zero => intro b hb; cases hb
  | succ k ih =>
    rw [readsM_succ]
    intro b hb
    rcases List.mem_append.1 hb with hb | hb
    · exact ih b hb
    · obtain rfl := List.mem_singleton.1 hb
      unfold DM.readM
      split
      · rename_i hz
        have hs := readsM_sec d k
        have hlt : ¬ (((d.readsM k).1.sec.length : Int) ≤ (k : Int)) ∧ ¬ (k : Int) < 0 := by
          constructor <;> (intro hc; revert hz; unfold DM.pre; split; simp; simp [hc])
        have : k < d.sec.length := by rw [hs] at hlt; omega
        show ((d.readsM k).1.sec.getD k []).length = 64
        rw [hs]
        exact sec_len h this
      · rfl

set_option maxRecDepth 100000 in
set_option maxHeartbeats 2000000 in
theorem held_any (g : Nat) (d : DM) (F : Nat → Prop) (w : World) (h : Disk w F g d) :
    Calls Try.prog 18 #[.pointer (some ⟨g, 0, none⟩)] w fun e w' => ∃ v, e = .returned v ∧ w'.ownsRow w.heap.size 39 64 v d.sec.length (bv d.heldM.2.flatten) ∧ Disk w' F g d.heldM.1 ∧ Off F w w' := by
  obtain ⟨ie, hie, hz0, hz1, hz2⟩ := info_parts info39
  have HIE := Lib.hid hie
  have HZ0 : Hid (ie.zero = some (.agg (bv nought).toArray)) := hz0
  have HZ1 := Lib.hid hz1
  have HZL : Hid (ie.size = (bv nought).length) := (show _ = _ from hz1.trans rfl)
  have HPOS : Hid (0 < (bv nought).length) := (show _ < _ by decide)
  have HTH : Hid ((bv nought).length ≤ 1000) := (show _ ≤ _ by decide)
  have HZ2 := Lib.hid hz2
  have hgood : Good d := by obtain ⟨⟨_, _, _, h1⟩, _⟩ := h; exact h1.good
  have HF := Lib.hid h.2
  have HGD := Lib.hid hgood
  have hmost := hgood.most
  have HD := Lib.hid h
  obtain ⟨m, hm⟩ : ∃ m, m = d.sec.length := ⟨_, rfl⟩
  have hmm : d.heldM = d.readsM m := by rw [hm]; rfl
  rw [hmm, ← hm]
  rw [← hm] at hmost
  have HMM := Lib.hid hm
  clear hie hz0 hz1 hz2 hgood h hmm hm
  go_enter Try.func18, Try.ntmps18
  go_wp2_with fail
  refine (len_any g d F w HD.out.1).mono ?_
  rintro e w1 ⟨rfl, rfl⟩
  rw [← HMM.out]
  go_wp2
  go_loopw [3, 9] (fun v i wr => ∃ k : Nat, k ≤ m ∧ i = .int .i64 k ∧ Hid (wr.ownsRow w1.heap.size 39 64 v k (bv (d.readsM k).2.flatten) ∧ Disk wr F g (d.readsM k).1 ∧ Off F w1 wr)) (fun _ i _ => m - (intOf i).toNat)
  case atStart => exact ⟨0, by omega, rfl, (show _ ∧ _ from ⟨World.ownsRow_nil _ _ _ _, HD.out, Off.refl _ _⟩)⟩
  case round =>
    obtain ⟨k, hk, rfl, HI⟩ := hrel
    by_cases hlt : k < m
    · go_wp2_with fail
      refine (read_keep g _ F (k : Int) wr HI.out.2.1).mono ?_
      rintro e w2 ⟨rfl, hD2, ho2⟩
      have hsucc := readsM_succ d k
      have hall := reads_blk HGD.out (k + 1)
      obtain ⟨L, hL⟩ : ∃ L, L = ((d.readsM k).1.readM (k : Int)).2.1 := ⟨_, rfl⟩
      have h64 : L.length = 64 := by
        refine hall L ?_
        rw [hsucc, hL]; simp
      rw [← hL]
      rw [← hL] at hsucc
      have hD2' : Disk w2 F g (d.readsM (k + 1)).1 := by rw [hsucc]; exact hD2
      have hfl : (d.readsM (k + 1)).2.flatten = (d.readsM k).2.flatten ++ L := by rw [hsucc]; simp
      have hown2 := ownsRow_off HI.out.1 (fun j hj => by have := HF.out j hj; omega) ho2
      have hoff2 : Off F w1 w2 := HI.out.2.2.trans (Ext.refl _ _ _) ho2
      have hrow := Row.new w2 39 (bv nought)
      have HROW := Lib.hid hrow
      have HD2 := Lib.hid hD2'
      have HOWN := Lib.hid hown2
      have HOFF := Lib.hid hoff2
      have HFL := Lib.hid hfl
      have HL64 := Lib.hid h64
      have HSZ : Hid ((Try.prog.info? 39).map (·.size) = some L.length) := (show _ = _ by rw [h64]; exact size39)
      have HSB : Hid ((Try.prog.info? 39).map (·.size) = some (bv L).length) := (show _ = _ by rw [bv_length]; exact HSZ.out)
      have HFT : Hid (0 + (bv L).length ≤ (bv nought).length) := (show _ ≤ _ from Nat.le_of_eq ((Nat.zero_add _).trans ((bv_length _).trans (h64.trans rfl))))
      clear hD2 ho2 hsucc hall hL h64 hD2' hfl hown2 hoff2 hrow HI
      go_wp2_with (first
        | (with_reducible refine wpList_store_in (op := ⟨none, _, _, _, _, _⟩) ?_ 39 (.tmp 5) (.tmp 16) ?_ w2.heap.size 0 (bv L) ?_ ?_ 39 (bv nought) ?_ HFT.out bv_one HSB.out ?_))
      all_goals try (first | rfl | exact HROW.out)
      intro w3 hr3 hg3
      rw [splice_all (bv nought) (bv L) (Eq.symm ((bv_length L).trans (HL64.out.trans rfl)))] at hr3
      have hrg3 := Row.range hr3 (o := 0) (vs := bv L) fun j v hj => by simpa using hj
      have hb3 : Below w2.heap.size w2 w3 := ((Below.refl _ _).alloc (Nat.le_refl _) _).grown hg3 (by simp) (fun j e => Nat.le_of_eq (Option.some.inj e))
      have hD3 := HD2.out.below hb3
      have hoff3 : Off F w1 w3 := HOFF.out.trans (Ext.refl _ _ _) (Off.of_below hb3)
      have hown3 := ownsRow_off (F := fun _ => False) HOWN.out (fun _ hf => hf.elim) (Off.of_below hb3)
      have hown4 := hown3.alloc (.cells (bv L).toArray 39)
      have HRG3 := Lib.hid hrg3
      have HD3 := Lib.hid hD3
      have HOFF3 := Lib.hid hoff3
      have HOWN4 := Lib.hid hown4
      have HB : Hid ((bv L).length = (bv nought).length) := (show _ = _ from (bv_length L).trans (HL64.out.trans rfl))
      have HN : Hid ((bv L).length = 1 * 64) := (show _ = _ from (bv_length L).trans HL64.out)
      have HNEWS : Hid (∀ j u, (bv L)[j]? = some u → (w3.alloc (.cells (bv L).toArray 39)).cell? ((⟨w3.heap.size, 0, none⟩ : Addr).add j) = some u) := (show ∀ j u, _ → _ from World.news_of_block (heap_alloc_new w3 _))
      have hs3 : w1.heap.size ≤ w3.heap.size := hoff3.size
      clear hr3 hg3 hrg3 hb3 hD3 hoff3 hown3 hown4 HROW HD2 HOWN HOFF
      go_wp2_with (first
        | (with_reducible refine wpList_load_blk (op := ⟨some 19, _, _, _, _, _⟩) ?_ 39 (.tmp 5) ?_ w2.heap.size 0 ?_ L _ HRG3.out Try.underlying39 ?_ HSZ.out ?_)
        | (with_reducible refine wpList_buildOne (o := ⟨some 20, _, _, _, _, _⟩) ?_ 28 39 (.tmp 19) ?_ (bv L) (bv nought) ie ?_ Try.underlying28 HIE.out HZ0.out HZL.out HB.out HPOS.out HTH.out ?_)
        | (with_reducible refine wpList_append_own _ (o := ⟨some 21, _, _, _, _, _⟩) ?_ (.tmp 18) (.tmp 20) 28 ?_ w1.heap.size 39 ie _ 64 64 Try.underlying28 HIE.out HZ0.out HZ1.out HZ2.out ?_ ?_ _ k (bv (d.readsM k).2.flatten) ?_ HOWN4.out ⟨w3.heap.size, 0, none⟩ 1 1 (bv L) ?_ HN.out HNEWS.out bv_one ?_ ?_ ?_ ?_))
      all_goals try (first | rfl | decide | (unfold maxLen; omega) | omega | (simp; omega))
      intro v' w4 hown5 hg5 _
      have hx5 : ∀ j, Value.ownBlock _ = some j → w1.heap.size ≤ j := fun j hj => (World.ownsRow.lt HOWN4.out j hj).1
      have hoff5 : Off F w1 w4 := (HOFF3.out.alloc _).grown hg5 (fun j hj => .inr (hx5 j hj))
      have hD5 : Disk w4 F g (d.readsM (k + 1)).1 := HD3.out.off (F' := fun j => w1.heap.size ≤ j) (fun j hj hc => by have := HF.out j hj; omega) (((Off.refl _ w3).alloc _).grown hg5 (fun j hj => .inl (hx5 j hj)))
      rw [← bv_append, ← HFL.out] at hown5
      have HG := Lib.hid (show _ ∧ _ ∧ _ from ⟨hown5, hD5, hoff5⟩)
      clear hown5 hg5 hx5 hoff5 hD5 HRG3 HD3 HOFF3 HOWN4 HNEWS
      go_wp2
      go_roundw
      case rel => exact ⟨k + 1, by omega, by go_num, HG⟩
      case measure => simp [intOf]; omega
    · obtain rfl : k = m := by omega
      go_wp2
      go_ret
      exact ⟨_, rfl, HI.out.1, HI.out.2.1, HI.out.2.2⟩
end Go.Proofs.Ytbfpadilcfelbaa.Dsk
