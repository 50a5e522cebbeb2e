/-
  A page's sectors.
-/
import Derived.Test.YtnljhopikjkflaaDoorPgT
import Derived.Test.YtnljhopikjkflaaDoorDev0
import Derived.Laws.Cover3
import Derived.RangeFuncBox
namespace Go.Proofs.YtnljhopikjkflaaDoor.Pg
set_option maxRecDepth 100000
open Go.RowKit Go.Proofs.YtnljhopikjkflaaDoor.Wd Go.Proofs.YtnljhopikjkflaaDoor.Oct Go.Proofs.YtnljhopikjkflaaDoor.Dsk Go.Proofs.YtnljhopikjkflaaDoor.Rec Go.Proofs.YtnljhopikjkflaaDoor.Sum Go.Proofs.YtnljhopikjkflaaDoor.Sm

attribute [local go_sem] Oper.semAt_some

theorem info_blk : (Tryd.prog.info? 53).map (fun i => (i.zero, i.size, i.bytes)) = some (some (.agg (bv (List.replicate 64 0)).toArray), 64, 64) := by kernel_rfl
/-- the sectors that were told, their bytes behind one another -/
def flC (b : List UInt8) (l : List Q4) : List Value := l.flatMap fun x => bv ((b.drop (64 * x.1)).take 64)
theorem flC_snoc (b : List UInt8) (l : List Q4) (x : Q4) : flC b (l ++ [x]) = flC b l ++ bv ((b.drop (64 * x.1)).take 64) := by simp [flC]
theorem flC_all (b : List UInt8) (h : b.length = 256) : flC b (upto4 4) = bv b := by
  have e : upto4 4 = [sq4 0, sq4 1, sq4 2, sq4 3] := rfl
  rw [e]
  simp only [flC, List.flatMap_cons, List.flatMap_nil, sq4, List.append_nil]
  rw [← bv_append, ← bv_append, ← bv_append]
  congr 1
  have h1 : b = b.take 64 ++ b.drop 64 := (List.take_append_drop 64 b).symm
  have h2 : b.drop 64 = (b.drop 64).take 64 ++ b.drop 128 := by rw [← List.drop_drop (i := 64) (j := 64)]; exact (List.take_append_drop 64 (b.drop 64)).symm
  have h3 : b.drop 128 = (b.drop 128).take 64 ++ b.drop 192 := by rw [← List.drop_drop (i := 64) (j := 128)]; exact (List.take_append_drop 64 (b.drop 128)).symm
  have h4 : (b.drop 192).take 64 = b.drop 192 := List.take_of_length_le (by simp [h])
  show b.take 64 ++ ((b.drop 64).take 64 ++ ((b.drop 128).take 64 ++ (b.drop 192).take 64)) = b
  rw [h4, ← h3, ← h2, ← h1]
theorem size58 : (Tryd.prog.info? 53).map (·.size) = some 64 := by kernel_rfl
theorem own_part {W : World} {base g n cap : Nat} {b : List UInt8} (h : Own W base (.slice (some ⟨g, 0, none⟩) n cap) b) (o m : Nat) : W.rangeAt g o (bv ((b.drop o).take m)) := fun j u hu => by
  have hj : (bv b)[o + j]? = some u := by
    simp only [bv, List.getElem?_map, List.getElem?_take, List.getElem?_drop] at hu ⊢
    split at hu
    · exact hu
    · simp at hu
  have := World.ownsRow.cells h rfl (o + j) u hj
  rw [Addr.add_lit, Nat.zero_add] at this
  exact this
/-- what the rounds over a page's sectors hold -/
def SI (TL TB : TypeId) (g cap : Nat) (b : List UInt8) (w w1 w2 w4 : World) (pre : List Q4) (W : World) : Prop :=
  ∃ v, Row W w2.heap.size TL [v] ∧ W.ownsRow w4.heap.size TB 64 v pre.length (flC b pre) ∧ Own W w1.heap.size (.slice (some ⟨g, 0, none⟩) 256 cap) b ∧ Below w.heap.size w W ∧ w4.heap.size ≤ W.heap.size
theorem SI.own {TL TB : TypeId} {g cap : Nat} {b : List UInt8} {w w1 w2 w4 W W' : World} {pre : List Q4} {row : Option Nat} (h : SI TL TB g cap b w w1 w2 w4 pre W) (hg : W.grownBy W' row) (hr : ∀ r, row = some r → w4.heap.size ≤ r ∧ ∃ o : Obj, W.heap[r]? = some o ∧ o.isCells = false) (hw : w.heap.size ≤ w4.heap.size) : SI TL TB g cap b w w1 w2 w4 pre W' := by
  obtain ⟨v, h1, h2, h3, h4, h5⟩ := h
  have hr' := fun r e => (hr r e).2
  exact ⟨v, row_kept h1 hg hr', owns_kept h2 hg hr', owns_kept h3 hg hr', h4.grown hg h4.size (fun r e => Nat.le_trans hw (hr r e).1), Nat.le_trans h5 hg.size⟩
/-- a sector more -/
theorem SI.next {TL TB : TypeId} {g cap : Nat} {b : List UInt8} {w w1 w2 w4 W W3 W5 : World} {pre : List Q4} {x : Q4} {v v' : Value} {ch : List Value} (h1 : Row W w2.heap.size TL [v]) (h2 : W.ownsRow w4.heap.size TB 64 v pre.length (flC b pre)) (h3 : Own W w1.heap.size (.slice (some ⟨g, 0, none⟩) 256 cap) b) (h4 : Below w.heap.size w W) (h5 : w4.heap.size ≤ W.heap.size)
    (ha : W3 = W.alloc (.cells ch.toArray TB)) (ho : W5.ownsRow w4.heap.size TB 64 v' (pre.length + 1) (flC b pre ++ ch)) (hg : W3.grownBy W5 v.ownBlock) (hn : flC b (pre ++ [x]) = flC b pre ++ ch) (hw : w.heap.size ≤ w2.heap.size) (hgl : g < w2.heap.size) (hs4 : w4.heap.size = w2.heap.size + 3) :
    KeepsFrom w4.heap.size W (W5.setCell ⟨w2.heap.size, 0, none⟩ v') ∧ KeepB (fun k => k = w2.heap.size + 1 ∨ k = w2.heap.size + 1 + 1) W (W5.setCell ⟨w2.heap.size, 0, none⟩ v') ∧ SI TL TB g cap b w w1 w2 w4 (pre ++ [x]) (W5.setCell ⟨w2.heap.size, 0, none⟩ v') := by
  have hlt := World.ownsRow.lt h2
  have hlt5 := World.ownsRow.lt ho
  have hg3 : W.grownBy W3 none := by rw [ha]; exact World.grownBy_alloc _ _ _
  have hg6 := grownBy_setCell' W5 w2.heap.size v'
  have hblk : ∀ k, k < W.heap.size → v.ownBlock ≠ some k → k ≠ w2.heap.size → (W5.setCell ⟨w2.heap.size, 0, none⟩ v').heap[k]? = W.heap[k]? := fun k hk hv hne => by
    rw [hg6.block k (Nat.lt_of_lt_of_le hk (Nat.le_trans hg3.size hg.size)) (fun e => hne (Option.some.inj e)), hg.block k (Nat.lt_of_lt_of_le hk hg3.size) (fun e => hv e.symm), hg3.block k hk (fun e => by cases e)]
  have hsz : W.heap.size ≤ (W5.setCell ⟨w2.heap.size, 0, none⟩ v').heap.size := Nat.le_trans hg3.size (Nat.le_trans hg.size hg6.size)
  have hv4 : ∀ k, k < w4.heap.size → v.ownBlock ≠ some k := fun k hk e => by have := (hlt k e).1; omega
  refine ⟨⟨hsz, fun k o hB hk hc => (hblk k (Array.getElem?_eq_some_iff.1 hk).1 (fun e => ?_) (by omega)).trans hk⟩, fun k hk => hblk k (by omega) (hv4 k (by omega)) (by omega), v', ?_, ?_, ?_, ?_, Nat.le_trans h5 hsz⟩
  · rcases h2.2 with ⟨rfl, -⟩ | ⟨g', cap', cur, rfl, -, hgg, -⟩
    · cases e
    · obtain rfl : g' = k := Option.some.inj e
      rw [hgg] at hk
      cases hk
      cases hc
  · have r3 : Row W3 w2.heap.size TL [v] := h1.grown hg3 (fun e => by cases e)
    have r5 : Row W5 w2.heap.size TL [v] := r3.grown hg (fun e => hv4 _ (by omega) e.symm)
    exact r5.store 0 v'
  · rw [hn, List.length_append]
    exact World.ownsRow.kept ho hg6 (.inr fun e => by have := (hlt5 _ e).1; omega)
  · have o3 := World.ownsRow.kept h3 hg3 (.inr fun e => by cases e)
    have o5 := World.ownsRow.kept o3 hg (.inr fun e => hv4 g (by omega) e.symm)
    exact World.ownsRow.kept o5 hg6 (.inr fun e => by have e' : g = w2.heap.size := Option.some.inj e; omega)
  · exact ((h4.grown hg3 h4.size (fun r e => by cases e)).grown hg (Nat.le_trans h4.size hg3.size) (fun k e => by have := (hlt k e).1; omega)).grown hg6 (Nat.le_trans h4.size (Nat.le_trans hg3.size hg.size)) (fun k e => by have := Option.some.inj e; omega)
/-- what a page's sectors come to -/
def Secs (w : World) (num : Int) (lsn : Nat) (sl : Nat → List UInt8) (ok : Bool) (e : Ending) (w' : World) : Prop :=
  ∃ v, e = .returned (.tuple #[v, .int .i64 (errP ok)]) ∧ (if ok = true then w'.ownsRow w.heap.size 53 64 v 4 (bv (pageB num lsn sl)) else v = .slice none 0 0) ∧ Below w.heap.size w w'

set_option maxHeartbeats 4000000 in
theorem sectors_any (num : Int) (lsn : Nat) (sl : Nat → List UInt8) (s : PS) (B : Nat) (w : World) (h : PgAt w B sl s) (hB : B ≤ w.heap.size) :
    Calls Tryd.prog 8 #[.agg (pcs num lsn s).toArray] w (Secs w num lsn sl (okN num s.n)) := by
  obtain ⟨iB, hiB, hzB, hsB, hbB⟩ := info_parts info_blk
  have HP := Lib.hid h
  have HLEN : Hid (okN num s.n = true → (pageB num lsn sl).length = 256) := (show _ → _ from fun ok => pageB_len (fun k hk => by rw [h.lens k hk]; exact (okN_iff.1 ok).2 k hk))
  have HEN : Hid (∀ (W : World), Below w.heap.size w W → Calls Tryd.prog 6 #[.agg (pcs num lsn s).toArray] W (Enc W num lsn sl (okN num s.n))) := (show ∀ W, _ → _ from fun W hb => encode_any num lsn sl s B W (HP.out.below (hb.mono hB)) (Nat.le_trans hB hb.size))
  clear h
  generalize okN num s.n = ok at HEN HLEN ⊢
  unfold Enc at HEN
  unfold Secs
  generalize pageB num lsn sl = b at HEN HLEN ⊢
  unfold pcs at HEN ⊢
  refine (callsIn_wide (n := 9)).1 ?_
  refine callsIn_of_wp_marks Tryd.func8 rfl trivial ?_ rfl
  refine wpIn_wide.2 ?_
  simp only [Tryd.ntmps8, List.size_toArray, List.length_cons, List.length_nil, Nat.reduceAdd, Nat.reduceSub, Array.replicate_succ, Array.replicate_zero, List.push_toArray, List.append_toArray, List.nil_append, List.cons_append]
  go_upto_region 1 with fail
  have HB := Lib.hid (boxed w num lsn s)
  unfold pcs at HB
  generalize w.alloc (.cells #[.int .i64 num, .int .u64 (lsn : Int), .slice (s.A 0) (s.n 0) (s.c 0), .slice (s.A 1) (s.n 1) (s.c 1), .slice (s.A 2) (s.n 2) (s.c 2), .slice (s.A 3) (s.n 3) (s.c 3)] 26) = w1 at HB ⊢
  have ha0 : w1.cell? ⟨w.heap.size, 0, none⟩ = some (.int .i64 num) := HB.out.row.cell 0
  have ha1 : w1.cell? ⟨w.heap.size, 1, none⟩ = some (.int .u64 (lsn : Int)) := HB.out.row.cell 1
  have ha2 : w1.cell? ⟨w.heap.size, 2, none⟩ = some (.slice (s.A 0) (s.n 0) (s.c 0)) := HB.out.row.cell 2
  have ha3 : w1.cell? ⟨w.heap.size, 3, none⟩ = some (.slice (s.A 1) (s.n 1) (s.c 1)) := HB.out.row.cell 3
  have ha4 : w1.cell? ⟨w.heap.size, 4, none⟩ = some (.slice (s.A 2) (s.n 2) (s.c 2)) := HB.out.row.cell 4
  have ha5 : w1.cell? ⟨w.heap.size, 5, none⟩ = some (.slice (s.A 3) (s.n 3) (s.c 3)) := HB.out.row.cell 5
  go_wp2_with fail
  refine (HEN.out _ HB.out.hb).mono ?_
  rintro e w2 ⟨v, rfl, ho, hb2⟩
  have HB2 := Lib.hid (HB.out.then hb2)
  have HSZ1 := Lib.hid HB.out.sz
  have HO := Lib.hid ho
  clear ha0 ha1 ha2 ha3 ha4 ha5 hb2 HB ho HEN
  cases ok
  · rw [show errP false = 160 from rfl]
    go_wp2_with fail
    exact ⟨.tuple #[.slice none 0 0, .int .i64 160], by simp [results, Tryd.results8, go_sem], _, rfl, by simp, HB2.out.hb⟩
  · rw [show errP true = 0 from rfl]
    have hlen := HLEN.out rfl
    have hown := HO.out
    simp only [if_true] at hown
    obtain ⟨g, cap, hv⟩ : ∃ g cap, v = .slice (some ⟨g, 0, none⟩) 256 cap := by
      rcases hown.2 with ⟨-, h0⟩ | ⟨g, cap, cur, hv, -⟩
      · omega
      · rw [hlen] at hv; exact ⟨g, cap, hv⟩
    subst hv
    go_wp2_with fail
    refine (chunk_any _ _ _ _).mono ?_
    rintro e w4 ⟨rfl, hw4⟩
    have hgb : w1.heap.size ≤ g ∧ g < w2.heap.size := World.ownsRow.lt hown g rfl
    have hs1 := HSZ1.out
    have hRL : Row w4 w2.heap.size 34 [.slice none 0 0] := by
      rw [hw4]; exact (Row.alloc (Row.alloc (Row.new w2 34 [.slice none 0 0]) _) _)
    have hRs : w4.cell? ⟨w2.heap.size + 1, 0, none⟩ = some (.slice (some ⟨g, 0, none⟩) 256 cap) := by
      have := Row.alloc (Row.new (w2.alloc (.cells #[.slice none 0 0] 34)) 23 [.slice (some ⟨g, 0, none⟩) 256 cap]) (.cells #[.int .i64 64] 3)
      rw [World.size_alloc] at this
      rw [hw4]; exact this.cell 0
    have hRn : w4.cell? ⟨w2.heap.size + 1 + 1, 0, none⟩ = some (.int .i64 64) := by
      have := Row.new ((w2.alloc (.cells #[.slice none 0 0] 34)).alloc (.cells #[.slice (some ⟨g, 0, none⟩) 256 cap] 23)) 3 [.int .i64 64]
      rw [World.size_alloc, World.size_alloc] at this
      rw [hw4]; exact this.cell 0
    have hs4 : w4.heap.size = w2.heap.size + 3 := by rw [hw4]; simp
    have hO4 : Own w4 w1.heap.size (.slice (some ⟨g, 0, none⟩) 256 cap) b := by
      rw [hw4]; exact ((Own.alloc hown _).alloc _).alloc _
    have hsz2 : w.heap.size ≤ w2.heap.size := HB2.out.hb.size
    have hb4 : Below w.heap.size w w4 := by
      rw [hw4]; exact ((HB2.out.hb.alloc hsz2 _).alloc (by rw [World.size_alloc]; omega) _).alloc (by rw [World.size_alloc, World.size_alloc]; omega) _
    have hcm : 256 ≤ cap ∧ cap ≤ maxLen := by
      rcases hown.2 with ⟨-, h0⟩ | ⟨g', cap', cur, hv, -, -, h1, h2, -⟩
      · omega
      · rw [hlen] at hv h1; cases hv; exact ⟨h1, h2⟩
    clear hw4 hown HO
    go_wp2_with fail
    refine (wpIn_wide (n := 9)).1 ?_
    refine wpIn_rangeFunc_ownH (F := Fence.wide) (n := 9) rfl (by omega) (gf := 43) (lb := #[.pointer (some ⟨w2.heap.size + 1, 0, none⟩), .pointer (some ⟨w2.heap.size + 1 + 1, 0, none⟩)]) rfl trivial (enters_of Tryd.func43 (by kernel_rfl) rfl)
      (encs := encC g) (Kp := KeepB (fun k => k = w2.heap.size + 1 ∨ k = w2.heap.size + 1 + 1)) (S := fun xs => xs = upto4 4) (Sp := fun _ => True) (N := 4) (w0 := w4) ?hseq (fun h k => h.trans k) ?hKb (Below.refl _ _) (fun _ => rfl)
      (SI 34 53 g cap b w w1 w2 w4) (fun _ _ _ => False) (fun s X Y row hs hg hr => hs.own hg hr (by omega)) (fun _ _ _ _ _ h _ _ => h) ⟨_, hRL, World.ownsRow_nil _ _ _ _, hO4, hb4, Nat.le_refl _⟩ (fun x a' _ => a' = { tmps := #[.agg #[.int .i64 num, .int .u64 (lsn : Int), .slice (s.A 0) (s.n 0) (s.c 0), .slice (s.A 1) (s.n 1) (s.c 1), .slice (s.A 2) (s.n 2) (s.c 2), .slice (s.A 3) (s.n 3) (s.c 3)], .pointer (some ⟨w.heap.size, 0, none⟩), .slice none 0 0, .int .i64 0, .slice (some ⟨g, 0, none⟩) 256 cap, .int .i64 0, .pointer (some ⟨w2.heap.size, 0, none⟩), .slice (some ⟨g, 64 * x.1, none⟩) 64 64, .tuple #[.slice (some ⟨g, 0, none⟩) 256 cap, .int .i64 0], .agg #[.int .i64 num, .int .u64 (lsn : Int), .slice (s.A 0) (s.n 0) (s.c 0), .slice (s.A 1) (s.n 1) (s.c 1), .slice (s.A 2) (s.n 2) (s.c 2), .slice (s.A 3) (s.n 3) (s.c 3)], .tuple #[.slice (some ⟨g, 0, none⟩) 256 cap, .int .i64 0], .slice (some ⟨g, 0, none⟩) 256 cap, .int .i64 0, .int .i64 0, .bool false, undef, .slice (some ⟨g, 0, none⟩) 256 cap, .func (.func 43) #[] #[.pointer (some ⟨w2.heap.size + 1, 0, none⟩), .pointer (some ⟨w2.heap.size + 1 + 1, 0, none⟩)], .slice (some ⟨g, 64 * x.1, none⟩) 64 64, undef, undef, undef, undef, undef, undef, undef], defers := [] }) (fun x a' s X Y row h _ _ => h) ?assign ?body ?done ?stop
    case hseq =>
      intro l J Jx W hW hA _ hY h0
      exact chunk_in l (w2.heap.size + 1) (w2.heap.size + 1 + 1) g cap hcm.1 hcm.2 8 (by omega) _ (.inl rfl) (.inr rfl) J Jx (fun s X h => hA s X X.drew none h ⟨rfl, rfl, rfl, Nat.le_refl _, fun _ _ _ => rfl⟩ (fun r e => by cases e)) hY W ((hW.cell (p := ⟨w2.heap.size + 1, 0, none⟩) (by show w2.heap.size + 1 < _; omega)).trans hRs) ((hW.cell (p := ⟨w2.heap.size + 1 + 1, 0, none⟩) (by show w2.heap.size + 1 + 1 < _; omega)).trans hRn) h0
    case hKb =>
      intro W l o o' hl _ _ _ k hk
      exact World.putObj_heap_other (by omega)
    case assign =>
      intro l pre x W K hI hK
      unfold encC
      gi_wp2
      exact hK _ W ⟨Nat.le_refl _, fun k o _ hk _ => hk⟩ (fun _ _ => rfl) hI rfl
    case body =>
      rintro l pre x a' W hl ⟨r, hr⟩ hI rfl hlt
      obtain ⟨v, hL, hown, hO, hb, hsz⟩ := hI
      obtain ⟨q, hq⟩ := x
      have hrng := own_part hO (64 * q) 64
      have hpl : (bv ((b.drop (64 * q)).take 64)).length = 64 := by rw [bv_length, List.length_take, List.length_drop, hlen]; omega
      have hcL : W.cell? ⟨w2.heap.size, 0, none⟩ = some v := hL.cell 0
      obtain ⟨ch, hch⟩ : ∃ ch, ch = bv ((b.drop (64 * q)).take 64) := ⟨_, rfl⟩
      have HSN : Hid (flC b (pre ++ [⟨q, hq⟩]) = flC b pre ++ ch) := (show _ = _ from by rw [hch]; exact flC_snoc b pre ⟨q, hq⟩)
      have h1c : ∀ u ∈ ch, u.oneCell' = true := by rw [hch]; exact bv_one
      rw [← hch] at hrng hpl
      have HRG : Hid (∀ X, Own X w1.heap.size (.slice (some ⟨g, 0, none⟩) 256 cap) b → X.rangeAt g (64 * q) ch) := (show ∀ X, _ → _ from fun X h => by rw [hch]; exact own_part h _ _)
      clear hch
      have HSZ : Hid ((Tryd.prog.info? 53).map (·.size) = some ch.length) := (show _ = _ by rw [hpl]; exact size58)
      have HPL := Lib.hid hpl
      have HW := Lib.hid (show _ ∧ _ ∧ _ ∧ _ ∧ _ from ⟨hL, hown, hO, hb, hsz⟩)
      have HWDR : Hid (Row W.drew w2.heap.size 34 [v] ∧ W.drew.ownsRow w4.heap.size 53 64 v pre.length (flC b pre) ∧ Own W.drew w1.heap.size (.slice (some ⟨g, 0, none⟩) 256 cap) b ∧ Below w.heap.size w W.drew ∧ w4.heap.size ≤ W.drew.heap.size) := (show _ ∧ _ ∧ _ ∧ _ ∧ _ from ⟨hL, hown, hO, hb.trans ⟨rfl, rfl, rfl, Nat.le_refl _, fun _ _ => rfl⟩, hsz⟩)
      clear hL hown hO hb hsz hb4 hO4 hRL hRs hRn
      gi_wp2_with fail
      refine region_in2 (S := fun w' : World => w'.rangeAt g (64 * q) ch) (by kernel_rfl) (by rfl) (fun ⟨_, _, h⟩ => h) hrng (fun hHeld => ?_)
      refine wpAnyH_take (i := 1) (oi := ⟨some 20, _, _, _, _, _⟩) (v := ?va) rfl (by kernel_rfl) (by kernel_rfl) (by kernel_rfl) (fun _ _ _ h => h) (Or.inl ⟨by rfl, ?ya⟩) hHeld ?ra
      case ya =>
        rintro w' hSw
        go_simp
        try with_reducible rfl
      try simp only [Act.put, List.setIfInBounds_toArray, List.set_cons_zero, List.set_cons_succ]
      refine wpAnyH_take (i := 2) (oi := ⟨some 21, _, _, _, _, _⟩) (v := ?vb) rfl (by kernel_rfl) (by kernel_rfl) (by kernel_rfl) (fun _ _ _ h => h) (Or.inl ⟨by rfl, ?yb⟩) hHeld ?rb
      case yb =>
        rintro w' hSw
        go_simp
        rw [run_arrayAt _ 53 5 64 _ 64 64 Tryd.underlying53 (by omega)]
        rfl
      try simp only [Act.put, List.setIfInBounds_toArray, List.set_cons_zero, List.set_cons_succ]
      refine wpAnyH_take (i := 3) (oi := ⟨some 22, _, _, _, _, _⟩) rfl (by kernel_rfl) (by kernel_rfl) (by kernel_rfl) (fun _ _ _ h => h) (yieldsIf_load_mid (by rfl) 53 (.tmp 21) rfl g (64 * q) ?x7a ch _ (fun _ hS => hS) Tryd.underlying53 rfl HSZ.out) hHeld ?r7a
      case x7a => first | rfl | (simp [Act.eval, go_sem]; done)
      try simp only [Act.put, List.setIfInBounds_toArray, List.set_cons_zero, List.set_cons_succ]
      obtain ⟨Wd, hWd⟩ : ∃ Wd, Wd = W.drew := ⟨_, rfl⟩
      have HWD : Hid (Row Wd w2.heap.size 34 [v] ∧ Wd.ownsRow w4.heap.size 53 64 v pre.length (flC b pre) ∧ Own Wd w1.heap.size (.slice (some ⟨g, 0, none⟩) 256 cap) b ∧ Below w.heap.size w Wd ∧ w4.heap.size ≤ Wd.heap.size) := by rw [hWd]; exact HWDR.out
      have HKD : Hid ((∀ X, KeepsFrom w4.heap.size Wd X → KeepsFrom w4.heap.size W X) ∧ (∀ X, KeepB (fun k => k = w2.heap.size + 1 ∨ k = w2.heap.size + 1 + 1) Wd X → KeepB (fun k => k = w2.heap.size + 1 ∨ k = w2.heap.size + 1 + 1) W X)) := by rw [hWd]; exact ⟨fun _ h => ⟨h.1, h.2⟩, fun _ h => h⟩
      rw [← hWd]
      clear hWd hHeld HW hcL hrng
      refine wpAnyH_ready (rs := [0, 4]) (by kernel_rfl) (by simp) ?_
      refine (AllReadyH.cons rfl (fun K hK => ?_) (AllReadyH.cons rfl (fun K hK => ?_) AllReadyH.nil))
      · rw [if_pos (by rfl)]
        have c0 : Wd.cell? ⟨w2.heap.size, 0, none⟩ = some v := HWD.out.1.cell 0
        go_simp
        refine hK _ _ (HRG.out _ HWD.out.2.2.1) (fun _ => ?_)
        clear hK K c0
        try simp only [Act.put, List.setIfInBounds_toArray, List.set_cons_zero, List.set_cons_succ]
        refine wpAnyH_ready (rs := [4]) (by kernel_rfl) (by simp) ?_
        refine (AllReadyH.cons rfl (fun K hK => ?_) AllReadyH.nil)
        rw [if_pos (by rfl)]
        refine wp_buildOne 34 53 (.tmp 22) rfl ch (bv (List.replicate 64 0)) iB rfl Tryd.underlying34 hiB hzB (hsB.trans rfl) (HPL.out.trans rfl) (by decide) (by decide) ?_
        have RN3 := Lib.hid (Row.new Wd 53 ch)
        obtain ⟨W3, hW3⟩ : ∃ W3, W3 = Wd.alloc (.cells ch.toArray 53) := ⟨_, rfl⟩
        have OW3 := Lib.hid (World.ownsRow.alloc HWD.out.2.1 (.cells ch.toArray 53))
        have OO3 := Lib.hid (Own.alloc HWD.out.2.2.1 (.cells ch.toArray 53))
        have RL3 := Lib.hid (Row.alloc HWD.out.1 (.cells ch.toArray 53))
        rw [← hW3] at RN3 OW3 OO3 RL3 ⊢
        have HW3 := Lib.hid hW3
        clear hW3
        refine hK _ _ (HRG.out _ OO3.out) (fun _ => ?_)
        clear hK K
        try simp only [Act.put, List.setIfInBounds_toArray, List.set_cons_zero, List.set_cons_succ]
        refine wpAnyH_ready (rs := [5]) (by kernel_rfl) (by simp) ?_
        refine (AllReadyH.cons rfl (fun K hK => ?_) AllReadyH.nil)
        rw [if_pos (by rfl)]
        refine wp_append_own _ (.tmp 19) (.tmp 23) 34 rfl w4.heap.size 53 iB _ 64 64 Tryd.underlying34 hiB hzB hsB hbB rfl (by decide) v pre.length (flC b pre) rfl OW3.out ⟨Wd.heap.size, 0, none⟩ 1 1 ch rfl HPL.out (fun j u hu => by rw [Addr.add_lit, Nat.zero_add, RN3.out.cell]; exact hu) h1c (by unfold maxLen; omega) (by omega) (by rw [HW3.out, World.size_alloc]; have := HWD.out.2.2.2.2; omega) ?_
        intro v' W5 hown5 hg5 _
        obtain ⟨g5, cap5, rfl⟩ : ∃ g5 cap5, v' = .slice (some ⟨g5, 0, none⟩) (pre.length + 1) cap5 := by
          rcases hown5.2 with ⟨-, h0⟩ | ⟨g', cap', _, hv, -⟩
          · omega
          · exact ⟨g', cap', hv⟩
        have OO5 : Own W5 w1.heap.size (.slice (some ⟨g, 0, none⟩) 256 cap) b := World.ownsRow.kept OO3.out hg5 (.inr fun e => by have := (World.ownsRow.lt OW3.out g e.symm).1; omega)
        have RL5 := RL3.out.grown hg5 (fun e => by have := (World.ownsRow.lt OW3.out _ e.symm).1; omega)
        refine hK _ _ (HRG.out _ OO5) (fun _ => ?_)
        clear hK K
        try simp only [Act.put, List.setIfInBounds_toArray, List.set_cons_zero, List.set_cons_succ]
        refine wpAnyH_ready (rs := [6]) (by kernel_rfl) (by simp) ?_
        refine (AllReadyH.cons rfl (fun K hK => ?_) AllReadyH.nil)
        rw [if_pos (by rfl)]
        have c1 : W5.cell? ⟨w2.heap.size, 0, none⟩ = some v := RL5.cell 0
        have f1 := RL5.frozen 0
        go_simp
        have HN := SI.next HWD.out.1 HWD.out.2.1 HWD.out.2.2.1 HWD.out.2.2.2.1 HWD.out.2.2.2.2 HW3.out hown5 hg5 HSN.out hsz2 hgb.2 hs4
        refine hK _ _ (HRG.out _ (by obtain ⟨-, -, _, -, -, h, -⟩ := HN; exact h)) (fun _ => wpAnyH_done (by kernel_rfl) ?_ _)
        exact ⟨HKD.out.1 _ HN.1, HKD.out.2 _ HN.2.1, HN.2.2⟩
      · rw [if_pos (by rfl)]
        refine wp_buildOne 34 53 (.tmp 22) rfl ch (bv (List.replicate 64 0)) iB rfl Tryd.underlying34 hiB hzB (hsB.trans rfl) (HPL.out.trans rfl) (by decide) (by decide) ?_
        have RN3 := Lib.hid (Row.new Wd 53 ch)
        obtain ⟨W3, hW3⟩ : ∃ W3, W3 = Wd.alloc (.cells ch.toArray 53) := ⟨_, rfl⟩
        have OW3 := Lib.hid (World.ownsRow.alloc HWD.out.2.1 (.cells ch.toArray 53))
        have OO3 := Lib.hid (Own.alloc HWD.out.2.2.1 (.cells ch.toArray 53))
        have RL3 := Lib.hid (Row.alloc HWD.out.1 (.cells ch.toArray 53))
        rw [← hW3] at RN3 OW3 OO3 RL3 ⊢
        have HW3 := Lib.hid hW3
        clear hW3
        refine hK _ _ (HRG.out _ OO3.out) (fun _ => ?_)
        clear hK K
        try simp only [Act.put, List.setIfInBounds_toArray, List.set_cons_zero, List.set_cons_succ]
        refine wpAnyH_ready (rs := [0]) (by kernel_rfl) (by simp) ?_
        refine (AllReadyH.cons rfl (fun K hK => ?_) AllReadyH.nil)
        rw [if_pos (by rfl)]
        have c0 : W3.cell? ⟨w2.heap.size, 0, none⟩ = some v := RL3.out.cell 0
        go_simp
        refine hK _ _ (HRG.out _ OO3.out) (fun _ => ?_)
        clear hK K c0
        try simp only [Act.put, List.setIfInBounds_toArray, List.set_cons_zero, List.set_cons_succ]
        refine wpAnyH_ready (rs := [5]) (by kernel_rfl) (by simp) ?_
        refine (AllReadyH.cons rfl (fun K hK => ?_) AllReadyH.nil)
        rw [if_pos (by rfl)]
        refine wp_append_own _ (.tmp 19) (.tmp 23) 34 rfl w4.heap.size 53 iB _ 64 64 Tryd.underlying34 hiB hzB hsB hbB rfl (by decide) v pre.length (flC b pre) rfl OW3.out ⟨Wd.heap.size, 0, none⟩ 1 1 ch rfl HPL.out (fun j u hu => by rw [Addr.add_lit, Nat.zero_add, RN3.out.cell]; exact hu) h1c (by unfold maxLen; omega) (by omega) (by rw [HW3.out, World.size_alloc]; have := HWD.out.2.2.2.2; omega) ?_
        intro v' W5 hown5 hg5 _
        obtain ⟨g5, cap5, rfl⟩ : ∃ g5 cap5, v' = .slice (some ⟨g5, 0, none⟩) (pre.length + 1) cap5 := by
          rcases hown5.2 with ⟨-, h0⟩ | ⟨g', cap', _, hv, -⟩
          · omega
          · exact ⟨g', cap', hv⟩
        have OO5 : Own W5 w1.heap.size (.slice (some ⟨g, 0, none⟩) 256 cap) b := World.ownsRow.kept OO3.out hg5 (.inr fun e => by have := (World.ownsRow.lt OW3.out g e.symm).1; omega)
        have RL5 := RL3.out.grown hg5 (fun e => by have := (World.ownsRow.lt OW3.out _ e.symm).1; omega)
        refine hK _ _ (HRG.out _ OO5) (fun _ => ?_)
        clear hK K
        try simp only [Act.put, List.setIfInBounds_toArray, List.set_cons_zero, List.set_cons_succ]
        refine wpAnyH_ready (rs := [6]) (by kernel_rfl) (by simp) ?_
        refine (AllReadyH.cons rfl (fun K hK => ?_) AllReadyH.nil)
        rw [if_pos (by rfl)]
        have c1 : W5.cell? ⟨w2.heap.size, 0, none⟩ = some v := RL5.cell 0
        have f1 := RL5.frozen 0
        go_simp
        have HN := SI.next HWD.out.1 HWD.out.2.1 HWD.out.2.2.1 HWD.out.2.2.2.1 HWD.out.2.2.2.2 HW3.out hown5 hg5 HSN.out hsz2 hgb.2 hs4
        refine hK _ _ (HRG.out _ (by obtain ⟨-, -, _, -, -, h, -⟩ := HN; exact h)) (fun _ => wpAnyH_done (by kernel_rfl) ?_ _)
        exact ⟨HKD.out.1 _ HN.1, HKD.out.2 _ HN.2.1, HN.2.2⟩
    case done =>
      rintro D xs W hD rfl hI hK
      obtain ⟨v, hL, hown, hO, hb, hsz⟩ := hI
      have c0 : W.cell? ⟨w2.heap.size, 0, none⟩ = some v := hL.cell 0
      rw [upto4_len, flC_all b hlen] at hown
      have HKD := Lib.hid hK
      have HOW := Lib.hid hown
      have HBW := Lib.hid hb
      clear hK hown hO hb hb4 hO4 hRL hRs hRn
      go_wp2
      refine ⟨by simp, .inl ⟨_, _, rfl, run_takeDeferred HKD.out, ?_⟩⟩
      have hg := grownBy_putObj' W D (.deferred none)
      refine ⟨.tuple #[v, .int .i64 0], by simp [results, Tryd.results8, go_sem], _, rfl, ?_, HBW.out.grown hg HBW.out.size (fun k e => by have := Option.some.inj e; omega)⟩
      refine World.ownsRow.mono (owns_kept HOW.out hg (fun r e => ?_)) (by omega)
      obtain rfl := Option.some.inj e
      exact ⟨_, HKD.out, rfl⟩
    case stop =>
      intro D c pre W _ _ h _
      exact h.elim
end Go.Proofs.YtnljhopikjkflaaDoor.Pg
