/-
  Part 4 of the contracts that the law rests on.
-/
import Derived.Test.YteemdjamgbbjhaaWf3
/-
  Format.
-/
namespace Go.Proofs.Yteemdjamgbbjhaa.Wl
set_option maxRecDepth 100000
open Go.RowKit Go.Shelf Go.Proofs.Yteemdjamgbbjhaa.Wd Go.Proofs.Yteemdjamgbbjhaa.Dsk Go.Proofs.Yteemdjamgbbjhaa.Oct Go.Proofs.Yteemdjamgbbjhaa.Sum

def noughtsL (n : Nat) : List (Int × List UInt8) := (List.range n).map fun (i : Nat) => ((i : Int), nought)
def formM (area : Nat) (d : DM) : DM × Int :=
  if (layM (noughtsL (2 + 2 * area)) 0 d).2 ≠ 0 then layM (noughtsL (2 + 2 * area)) 0 d else beginM 0 area [] (layM (noughtsL (2 + 2 * area)) 0 d).1
set_option maxHeartbeats 8000000 in
theorem format_any (dg area : Nat) (d : DM) (F : Nat → Prop) (w : World) (hd : Dk w F dg d) (h4 : 4 ≤ area) (ha : area ≤ 1000) (hl : 2 + 2 * area ≤ d.sec.length) (hp : d.pend.length ≤ 800000) :
    Calls Try.prog 13 #[.pointer (some ⟨dg, 0, none⟩), .int .i64 (area : Int)] w fun e w' => ∃ p F', e = .returned (.tuple #[.pointer p, .int .i64 (formM area d).2]) ∧
      Dk w' F' dg (formM area d).1 ∧ Ext F F' w w' ∧ Off F w w' ∧ ((formM area d).2 ≠ 0 → p = none) ∧ ((formM area d).2 = 0 → ∃ g, p = some ⟨g, 0, none⟩ ∧ w.heap.size ≤ g ∧ Begun w w' g dg area 0 [] 0 false) := by
  have mixed : Try.prog.follows .mixedOrders = true := by kernel_rfl
  have HD := Lib.hid hd
  have hlt := hd.1.2
  obtain ⟨⟨gs0, A0, c0, hda⟩, _⟩ := id hd.1
  have hdl := hlt dg hda.fg
  have a1 : ¬ (area : Int) < 4 := by omega
  have a2 : ¬ (1000 : Int) < (area : Int) := by omega
  have HL := Lib.hid (len_any dg d F w hd.1.1)
  have HN := Lib.hid (needed_any area w ha)
  have HL2 := Lib.hid hl
  have hll : ¬ ((d.sec.length : Int) < ((2 + 2 * area : Nat) : Int)) := by omega
  clear hd hda hlt hl
  go_enter Try.func13, Try.ntmps13
  go_wp2_with fail
  refine (HL.out).mono ?_
  rintro e w1 ⟨rfl, hx⟩
  have hx2 := hx.symm
  subst hx2
  clear hx
  go_wp2_with fail
  refine (HN.out).mono ?_
  rintro e w1 ⟨rfl, hx2⟩
  subst hx2
  have hmk := make_blks (2 + 2 * area) (by omega)
  have hc2 : ((2 + 2 * area : Nat) : Int) = 2 + 2 * (area : Int) := by omega
  rw [hc2] at hmk
  go_wp2_with fail
  have rg0 : Row (w.alloc (.cells #[.pointer (some ⟨dg, 0, none⟩), .int .i64 (area : Int), .int .u32 0, .slice none 0 0, .int .i64 0, .bool false] 83)) w.heap.size 83 (wcs dg area 0 none 0 0 0 false) := Row.new w _ _
  have hb0 : Below w.heap.size w (w.alloc (.cells #[.pointer (some ⟨dg, 0, none⟩), .int .i64 (area : Int), .int .u32 0, .slice none 0 0, .int .i64 0, .bool false] 83)) := (Below.refl _ _).alloc (Nat.le_refl _) _
  generalize w.alloc (.cells #[.pointer (some ⟨dg, 0, none⟩), .int .i64 (area : Int), .int .u32 0, .slice none 0 0, .int .i64 0, .bool false] 83) = w1 at rg0 hb0 ⊢
  have RG1 := Lib.hid rg0
  have HB1 := Lib.hid hb0
  clear rg0 hb0
  refine (needed_any area w1 ha).mono ?_
  rintro e w2 ⟨rfl, hx2⟩
  subst hx2
  go_wp2_with fail
  have rs : Row (w1.alloc (.cells (madeCells (bv nought).toArray ((2 + 2 * area) * 64)) 89)) w1.heap.size 89 (List.replicate ((2 + 2 * area) * 64) (.int .u8 0)) := by
    have e2 : bv nought = List.replicate 64 (.int .u8 0) := (bv_zero 64).symm
    rw [e2, made_rep _ _ _ (by omega)]
    exact Row.new w1 89 _
  have hbs : Below w1.heap.size w1 (w1.alloc (.cells (madeCells (bv nought).toArray ((2 + 2 * area) * 64)) 89)) := (Below.refl _ _).alloc (Nat.le_refl _) _
  obtain ⟨gs, hgs⟩ : ∃ gs, w1.heap.size = gs := ⟨_, rfl⟩
  generalize w1.alloc (.cells (madeCells (bv nought).toArray ((2 + 2 * area) * 64)) 89) = w2 at rs hbs ⊢
  have HGS : Hid (w.heap.size ≤ gs) := Lib.hid (by rw [← hgs]; exact HB1.out.size)
  have RG2 := Lib.hid (RG1.out.below hbs RG1.out.lt)
  have HB2 := Lib.hid (HB1.out.trans (hbs.mono HB1.out.size))
  rw [hgs] at rs ⊢
  have RS := Lib.hid rs
  clear rs hbs hgs hmk
  refine (sall_any (some ⟨gs, 0, none⟩) (2 + 2 * area) (2 + 2 * area) w2).mono ?_
  rintro e w3 ⟨rfl, hw3⟩
  have rb : Row w3 w2.heap.size 72 [.slice (some ⟨gs, 0, none⟩) (2 + 2 * area) (2 + 2 * area)] := by rw [hw3]; exact Row.new w2 _ _
  have hb3 : Below w2.heap.size w2 w3 := by rw [hw3]; exact (Below.refl _ _).alloc (Nat.le_refl _) _
  clear hw3
  have RG3 := Lib.hid (RG2.out.below hb3 RG2.out.lt)
  have HB3 := Lib.hid (HB2.out.trans (hb3.mono HB2.out.size))
  have RS3 := Lib.hid (RS.out.below hb3 RS.out.lt)
  have RB := Lib.hid rb
  clear hb3 rb
  go_wp2_with fail
  obtain ⟨L, hL⟩ : ∃ L, L = List.replicate (2 + 2 * area) nought := ⟨_, rfl⟩
  have hLl : L.length = 2 + 2 * area := by rw [hL, List.length_replicate]
  have hLg : ∀ i, i < 2 + 2 * area → L.getD i nought = nought := fun i hi => by rw [hL, List.getD_eq_getElem?_getD, List.getElem?_replicate, if_pos hi]; rfl
  have hlst : (List.range L.length).map (fun (i : Nat) => ((i : Int), L.getD i nought)) = noughtsL (2 + 2 * area) := by
    unfold noughtsL
    rw [hLl]
    apply List.map_congr_left
    intro i hi
    rw [hLg i (List.mem_range.1 hi)]
  have hnF : ¬ F gs := fun h => by have := HD.out.1.2 gs h; have := HGS.out; omega
  have hbls : Bls w3 (fun k => k < w3.heap.size ∧ ¬ F k) (some ⟨gs, 0, none⟩) L := fun _ => ⟨gs, 0, rfl, ⟨RS3.out.lt, hnF⟩, fun i hi => by
    rw [hLl] at hi
    rw [hLg i hi]
    refine ⟨rfl, Row.range RS3.out fun j v hj => ?_⟩
    have hj2 : j < 64 := by simpa [nought_len] using (List.getElem?_eq_some_iff.1 hj).1
    have e2 : bv nought = List.replicate 64 (.int .u8 0) := (bv_zero 64).symm
    rw [e2, List.getElem?_replicate, if_pos hj2] at hj
    rw [← hj, List.getElem?_replicate, if_pos (by omega)]⟩
  have hsq := all_seq (c := 2 + 2 * area) (by rw [hLl]; omega) (by rw [hLl]; exact RB.out) hbls
  rw [hlst] at hsq
  have HLY := lay_dk w.heap.size dg area 0 0 0 0 none false 0 _ _ (noughtsL (2 + 2 * area)) d F w3 RG3.out (HD.out.below HB3.out) (by simp [noughtsL]; omega) (by omega) (enters_of Try.func71 (by kernel_rfl) rfl) hsq
  clear hsq hbls hlst hLl hLg
  rw [show ((0 : Nat) : Int) = 0 from rfl] at HLY
  refine HLY.mono ?_
  rintro e w4 ⟨rfl, F4, hd4, hx4, ho4, hr4⟩
  clear HLY
  obtain ⟨d1, hd1⟩ : ∃ d1, (layM (noughtsL (2 + 2 * area)) 0 d).1 = d1 := ⟨_, rfl⟩
  obtain ⟨er, her⟩ : ∃ er, (layM (noughtsL (2 + 2 * area)) 0 d).2 = er := ⟨_, rfl⟩
  rw [hd1] at hd4
  rw [her] at hr4 ⊢
  have hpd1 : d1.pend.length ≤ 810000 := by
    rw [← hd1]
    have h1 := lay_pend (noughtsL (2 + 2 * area)) 0 d
    have h2 : (noughtsL (2 + 2 * area)).length = 2 + 2 * area := by simp [noughtsL]
    omega
  have HO4 : Hid (Off F w w4) := Lib.hid ⟨ho4.os.trans HB3.out.os, ho4.tape.trans HB3.out.tape, ho4.output.trans HB3.out.output, Nat.le_trans HB3.out.size ho4.size, fun k hk hn => (ho4.block k (Nat.lt_of_lt_of_le hk HB3.out.size) (fun h => h.elim hn (fun e => by omega))).trans (HB3.out.block k hk)⟩
  have HX4 : Hid (Ext F F4 w w4) := Lib.hid fun k hk => by
    rcases hx4 k hk with h | h
    · exact .inl h
    · exact .inr ⟨Nat.le_trans HB3.out.size h.1, h.2⟩
  have HD4 := Lib.hid hd4
  have HR4 := Lib.hid hr4
  have HD1 := Lib.hid hd1
  have HER := Lib.hid her
  clear hd4 hx4 ho4 hr4 hd1 her
  by_cases h0 : er = 0
  · subst h0
    go_wp2_with fail
    refine (begin_any w.heap.size dg area 0 0 0 0 none (false || decide ((0 : Int) ≠ 0)) 0 none 0 0 [] d1 F4 w4 HR4.out HD4.out (Sl.nil_ _ _) (by omega) ha (by omega) (by omega)).mono ?_
    rintro e w5 ⟨rfl, F5, hd5, hx5, ho5, hb5, hg5⟩
    have hF : formM area d = beginM 0 area [] d1 := by
      unfold formM
      rw [if_neg (by rw [HER.out]; simp), HD1.out]
    rw [← hF] at hd5 hb5 hg5 ⊢
    have HX5 : Hid (Ext F F5 w w5) := Lib.hid fun k hk => by
      rcases hx5 k hk with h | h
      · rcases HX4.out k h with h | h
        · exact .inl h
        · exact .inr ⟨h.1, Nat.lt_of_lt_of_le h.2 ho5.size⟩
      · exact .inr ⟨Nat.le_trans HO4.out.size h.1, h.2⟩
    have HO5 : Hid (Off F w w5) := Lib.hid ⟨ho5.os.trans HO4.out.os, ho5.tape.trans HO4.out.tape, ho5.output.trans HO4.out.output, Nat.le_trans HO4.out.size ho5.size, fun k hk hn => (ho5.block k (Nat.lt_of_lt_of_le hk HO4.out.size) (fun h => h.elim (fun h => by
      rcases HX4.out k h with h | h
      · exact hn h
      · omega) (fun e => by omega))).trans (HO4.out.block k hk hn)⟩
    have HD5 := Lib.hid hd5
    have HG5 : Hid ((formM area d).2 = 0 → Begun w w5 w.heap.size dg area 0 [] 0 false) := Lib.hid fun h => by
      obtain ⟨A, c, Ab, cb, h1, h2, h3, h4, h5⟩ := hg5 h
      exact ⟨A, c, Ab, cb, by simpa using h1, h2, h3, fun k hk => Nat.le_trans HO4.out.size (h4 k hk), fun k hk => Nat.le_trans HO4.out.size (h5 k hk)⟩
    obtain ⟨e5, he5⟩ : ∃ e5, (formM area d).2 = e5 := ⟨_, rfl⟩
    rw [he5] at HG5 ⊢
    have HE5 := Lib.hid he5
    clear hd5 hx5 ho5 hb5 hg5 hF he5
    by_cases h1 : e5 = 0
    · subst h1
      go_wp2
      exact bodyPost_ret (v := .tuple #[.pointer (some ⟨w.heap.size, 0, none⟩), .int .i64 0]) (by simp [results, Try.results13, go_sem]) rfl ⟨_, F5, by rw [HE5.out], HD5.out, HX5.out, HO5.out, fun h => absurd HE5.out h, fun _ => ⟨_, rfl, Nat.le_refl _, HG5.out (by simp)⟩⟩
    · go_wp2
      exact bodyPost_ret (v := .tuple #[.pointer none, .int .i64 e5]) (by simp [results, Try.results13, go_sem]) rfl ⟨_, F5, by rw [HE5.out], HD5.out, HX5.out, HO5.out, fun _ => rfl, fun h => absurd (HE5.out.symm.trans h) h1⟩
  · have hF : formM area d = (d1, er) := by
      unfold formM
      rw [if_pos (by rw [HER.out]; exact h0), ← HD1.out, ← HER.out]
    have HFF := Lib.hid hF
    clear hF
    go_wp2
    exact bodyPost_ret (v := .tuple #[.pointer none, .int .i64 er]) (by simp [results, Try.results13, go_sem]) rfl ⟨_, F4, by rw [HFF.out], by rw [HFF.out]; exact HD4.out, HX4.out, HO4.out, fun _ => rfl, fun h => absurd (by rw [HFF.out] at h; exact h) h0⟩
end Go.Proofs.Yteemdjamgbbjhaa.Wl

/-
  Append.
-/
namespace Go.Proofs.Yteemdjamgbbjhaa.Wl
set_option maxRecDepth 100000
open Go.RowKit Go.Shelf Go.Proofs.Yteemdjamgbbjhaa.Wd Go.Proofs.Yteemdjamgbbjhaa.Dsk Go.Proofs.Yteemdjamgbbjhaa.Oct Go.Proofs.Yteemdjamgbbjhaa.Sum

/-- a log in memory: its own blocks are in G -/
def Log (w : World) (G : Nat → Prop) (g dg area t : Nat) (fs : List (List UInt8)) (br : Bool) : Prop :=
  ∃ A c xs, Row w g 83 (wcs dg area t A fs.length c (usedM fs) br) ∧ w.ownsRow 0 37 1 (.slice A fs.length c) fs.length xs ∧ G g ∧ (∀ k, (Value.slice A fs.length c).ownBlock = some k → G k) ∧
    ∀ i, i < fs.length → ∃ Ai ni ci, xs[i]? = some (.slice Ai ni ci) ∧ By w Ai ni ci (fs.getD i []) ∧ ni ≤ 40000 ∧ ∀ k, (Value.slice Ai ni ci).ownBlock = some k → G k
theorem Log.of_begun {w w' : World} {g dg area t m : Nat} {b : List UInt8} {br : Bool} (h : Begun w w' g dg area t b m br) (hg : w.heap.size ≤ g) (hm : m ≤ 40000) (hl : b.length = m) : Log w' (fun k => w.heap.size ≤ k) g dg area t [b] br := by
  obtain ⟨A, c, Ab, cb, h1, h2, h3, h4, h5⟩ := h
  refine ⟨A, c, [.slice Ab m cb], ?_, h2, hg, h4, fun i hi => ?_⟩
  · simpa [usedM, hl] using h1
  · have : i = 0 := by simp at hi; omega
    subst this
    exact ⟨Ab, m, cb, rfl, h3, hm, h5⟩
set_option maxHeartbeats 4000000 in
theorem end_any (g dg area t n c used : Nat) (A : Option Addr) (br : Bool) (w : World) (h : Row w g 83 (wcs dg area t A n c used br)) (ha : area ≤ 1000) (ht : t < 4294967296) (hu : used ≤ 2000) :
    Calls Try.prog 57 #[.pointer (some ⟨g, 0, none⟩)] w fun e w' => e = .returned (.int .i64 ((2 + t % 2 * area + used : Nat) : Int)) ∧ w' = w.drew := by
  have mixed : Try.prog.follows .mixedOrders = true := by kernel_rfl
  have R := Lib.hid h
  have HF := Lib.hid (first_any g dg area t used n c A br t w.drew (Row.drew h) ha ht)
  have h1 : t % 2 * area ≤ 1000 := by
    rcases Nat.mod_two_eq_zero_or_one t with e | e <;> rw [e] <;> omega
  clear h
  have hadd : IntKind.i64.wrap (((2 + t % 2 * area : Nat) : Int) + (used : Int)) = ((2 + t % 2 * area + used : Nat) : Int) := by
    rw [IntKind.wrap_i64]; omega
  obtain ⟨f, hf⟩ : ∃ f, f = 2 + t % 2 * area := ⟨_, rfl⟩
  rw [← hf] at HF hadd ⊢
  clear hf h1
  go_enter Try.func57, Try.ntmps57
  go_wp2_with fail
  refine wp_region_held_drew (S := (fun w' => Row w' g 83 (wcs dg area t A n c used br))) (by kernel_rfl) R.out (fun hHeld => ?_)
  refine wpAnyH_take (i := 0) (oi := ⟨some 3, _, _, _, _, _⟩) (v := ?v0) rfl (by kernel_rfl) (by kernel_rfl) (by kernel_rfl) (fun _ _ _ h => h) (Or.inl ⟨by rfl, ?y0⟩) hHeld ?r0
  case y0 =>
    rintro w' hSw
    go_simp
    try with_reducible rfl
  try simp only [Act.put, List.setIfInBounds_toArray, List.set_cons_zero, List.set_cons_succ]
  refine wpAnyH_take (i := 1) (oi := ⟨some 4, _, _, _, _, _⟩) (v := ?v1) rfl (by kernel_rfl) (by kernel_rfl) (by kernel_rfl) (fun _ _ _ h => h) (Or.inl ⟨by rfl, ?y1⟩) hHeld ?r1
  case y1 =>
    rintro w' hSw
    go_simp
    try with_reducible rfl
  try simp only [Act.put, List.setIfInBounds_toArray, List.set_cons_zero, List.set_cons_succ]
  refine wpAnyH_take (i := 2) (oi := ⟨some 5, _, _, _, _, _⟩) (v := ?v2) rfl (by kernel_rfl) (by kernel_rfl) (by kernel_rfl) (fun _ _ _ h => h) (Or.inl ⟨by rfl, ?y2⟩) hHeld ?r2
  case y2 =>
    rintro w' hSw
    go_simp
    try with_reducible rfl
  try simp only [Act.put, List.setIfInBounds_toArray, List.set_cons_zero, List.set_cons_succ]
  refine wpAnyH_take (i := 3) (oi := ⟨some 6, _, _, _, _, _⟩) (v := ?v3) rfl (by kernel_rfl) (by kernel_rfl) (by kernel_rfl) (fun _ _ _ h => h) (Or.inl ⟨by rfl, ?y3⟩) hHeld ?r3
  case y3 =>
    rintro w' hSw
    go_simp
    try with_reducible rfl
  try simp only [Act.put, List.setIfInBounds_toArray, List.set_cons_zero, List.set_cons_succ]
  refine wpAnyH_take (i := 4) (oi := ⟨some 7, _, _, _, _, _⟩) (v := ?v4) rfl (by kernel_rfl) (by kernel_rfl) (by kernel_rfl) (fun _ _ _ h => h) (Or.inl ⟨by rfl, ?y4⟩) hHeld ?r4
  case y4 =>
    rintro w' hSw
    go_simp
    try with_reducible rfl
  try simp only [Act.put, List.setIfInBounds_toArray, List.set_cons_zero, List.set_cons_succ]
  refine wpAnyH_take (i := 5) (oi := ⟨some 8, _, _, _, _, _⟩) (v := ?v5) rfl (by kernel_rfl) (by kernel_rfl) (by kernel_rfl) (fun _ _ _ h => h) (Or.inl ⟨by rfl, ?y5⟩) hHeld ?r5
  case y5 =>
    rintro w' hSw
    have e2 : w'.cell? ⟨g, 2, none⟩ = some (.int .u32 (t : Int)) := hSw.cell 2
    go_simp
    try with_reducible rfl
  try simp only [Act.put, List.setIfInBounds_toArray, List.set_cons_zero, List.set_cons_succ]
  refine wpAnyH_take (i := 7) (oi := ⟨some 10, _, _, _, _, _⟩) (v := ?v7) rfl (by kernel_rfl) (by kernel_rfl) (by kernel_rfl) (fun _ _ _ h => h) (Or.inl ⟨by rfl, ?y7⟩) hHeld ?r7
  case y7 =>
    rintro w' hSw
    go_simp
    try with_reducible rfl
  try simp only [Act.put, List.setIfInBounds_toArray, List.set_cons_zero, List.set_cons_succ]
  refine wpAnyH_take (i := 8) (oi := ⟨some 11, _, _, _, _, _⟩) (v := ?v8) rfl (by kernel_rfl) (by kernel_rfl) (by kernel_rfl) (fun _ _ _ h => h) (Or.inl ⟨by rfl, ?y8⟩) hHeld ?r8
  case y8 =>
    rintro w' hSw
    go_simp
    try with_reducible rfl
  try simp only [Act.put, List.setIfInBounds_toArray, List.set_cons_zero, List.set_cons_succ]
  refine wpAnyH_take (i := 9) (oi := ⟨some 12, _, _, _, _, _⟩) (v := ?v9) rfl (by kernel_rfl) (by kernel_rfl) (by kernel_rfl) (fun _ _ _ h => h) (Or.inl ⟨by rfl, ?y9⟩) hHeld ?r9
  case y9 =>
    rintro w' hSw
    go_simp
    try with_reducible rfl
  try simp only [Act.put, List.setIfInBounds_toArray, List.set_cons_zero, List.set_cons_succ]
  refine wpAnyH_take (i := 10) (oi := ⟨some 13, _, _, _, _, _⟩) (v := ?v10) rfl (by kernel_rfl) (by kernel_rfl) (by kernel_rfl) (fun _ _ _ h => h) (Or.inl ⟨by rfl, ?y10⟩) hHeld ?r10
  case y10 =>
    rintro w' hSw
    go_simp
    try with_reducible rfl
  try simp only [Act.put, List.setIfInBounds_toArray, List.set_cons_zero, List.set_cons_succ]
  refine wpAnyH_take (i := 11) (oi := ⟨some 14, _, _, _, _, _⟩) (v := ?v11) rfl (by kernel_rfl) (by kernel_rfl) (by kernel_rfl) (fun _ _ _ h => h) (Or.inl ⟨by rfl, ?y11⟩) hHeld ?r11
  case y11 =>
    rintro w' hSw
    have e4 : w'.cell? ⟨g, 4, none⟩ = some (.int .i64 (used : Int)) := hSw.cell 4
    go_simp
    try with_reducible rfl
  try simp only [Act.put, List.setIfInBounds_toArray, List.set_cons_zero, List.set_cons_succ]
  refine wpAnyH_ready (rs := [6]) (by kernel_rfl) (by simp) ?_
  refine AllReadyH.cons rfl (fun K hK => ?_) AllReadyH.nil
  go_simp
  refine (HF.out).mono ?_
  rintro e w2 ⟨rfl, hx⟩
  subst hx
  refine hK _ _ R.out (fun _ => ?_)
  clear hK K
  try simp only [Act.put, List.setIfInBounds_toArray, List.set_cons_zero, List.set_cons_succ]
  refine wpAnyH_take (i := 12) (oi := ⟨some 15, _, _, _, _, _⟩) (v := ?v12) rfl (by kernel_rfl) (by kernel_rfl) (by kernel_rfl) (fun _ _ _ h => h) (Or.inl ⟨by rfl, ?y12⟩) R.out ?r12
  case y12 =>
    rintro w' hSw
    go_simp
    try with_reducible rfl
  try simp only [Act.put, List.setIfInBounds_toArray, List.set_cons_zero, List.set_cons_succ]
  refine wpAnyH_take (i := 13) (oi := ⟨some 2, _, _, _, _, _⟩) (v := ?v13) rfl (by kernel_rfl) (by kernel_rfl) (by kernel_rfl) (fun _ _ _ h => h) (Or.inl ⟨by rfl, ?y13⟩) R.out ?r13
  case y13 =>
    rintro w' hSw
    go_simp
    try with_reducible rfl
  try simp only [Act.put, List.setIfInBounds_toArray, List.set_cons_zero, List.set_cons_succ]
  refine wpAnyH_done (by kernel_rfl) ?_ _
  go_wp2
  go_ret
  exact ⟨ret_int (by simp), rfl⟩
theorem left_any (g dg area t n c used : Nat) (A : Option Addr) (br : Bool) (w : World) (h : Row w g 83 (wcs dg area t A n c used br)) (ha : area ≤ 1000) (hu : used ≤ area) :
    Calls Try.prog 24 #[.pointer (some ⟨g, 0, none⟩)] w fun e w' => e = .returned (.int .i64 ((area - used : Nat) : Int)) ∧ w' = w.drew := by
  have mixed : Try.prog.follows .mixedOrders = true := by kernel_rfl
  have R := Lib.hid h
  clear h
  have hsub : IntKind.i64.wrap ((area : Int) - (used : Int)) = (area : Int) - used := by
    rw [IntKind.wrap_i64]; omega
  go_enter Try.func24, Try.ntmps24
  go_wp2_with fail
  refine wp_region_held_drew (S := (fun w' => Row w' g 83 (wcs dg area t A n c used br))) (by kernel_rfl) R.out (fun hHeld => ?_)
  refine wpAnyH_take (i := 0) (oi := ⟨some 5, _, _, _, _, _⟩) (v := ?v0) rfl (by kernel_rfl) (by kernel_rfl) (by kernel_rfl) (fun _ _ _ h => h) (Or.inl ⟨by rfl, ?y0⟩) hHeld ?r0
  case y0 =>
    rintro w' hSw
    go_simp
    try with_reducible rfl
  try simp only [Act.put, List.setIfInBounds_toArray, List.set_cons_zero, List.set_cons_succ]
  refine wpAnyH_take (i := 1) (oi := ⟨some 6, _, _, _, _, _⟩) (v := ?v1) rfl (by kernel_rfl) (by kernel_rfl) (by kernel_rfl) (fun _ _ _ h => h) (Or.inl ⟨by rfl, ?y1⟩) hHeld ?r1
  case y1 =>
    rintro w' hSw
    go_simp
    try with_reducible rfl
  try simp only [Act.put, List.setIfInBounds_toArray, List.set_cons_zero, List.set_cons_succ]
  refine wpAnyH_take (i := 2) (oi := ⟨some 7, _, _, _, _, _⟩) (v := ?v2) rfl (by kernel_rfl) (by kernel_rfl) (by kernel_rfl) (fun _ _ _ h => h) (Or.inl ⟨by rfl, ?y2⟩) hHeld ?r2
  case y2 =>
    rintro w' hSw
    go_simp
    try with_reducible rfl
  try simp only [Act.put, List.setIfInBounds_toArray, List.set_cons_zero, List.set_cons_succ]
  refine wpAnyH_take (i := 3) (oi := ⟨some 8, _, _, _, _, _⟩) (v := ?v3) rfl (by kernel_rfl) (by kernel_rfl) (by kernel_rfl) (fun _ _ _ h => h) (Or.inl ⟨by rfl, ?y3⟩) hHeld ?r3
  case y3 =>
    rintro w' hSw
    have e1 : w'.cell? ⟨g, 1, none⟩ = some (.int .i64 (area : Int)) := hSw.cell 1
    go_simp
    try with_reducible rfl
  try simp only [Act.put, List.setIfInBounds_toArray, List.set_cons_zero, List.set_cons_succ]
  refine wpAnyH_take (i := 4) (oi := ⟨some 9, _, _, _, _, _⟩) (v := ?v4) rfl (by kernel_rfl) (by kernel_rfl) (by kernel_rfl) (fun _ _ _ h => h) (Or.inl ⟨by rfl, ?y4⟩) hHeld ?r4
  case y4 =>
    rintro w' hSw
    go_simp
    try with_reducible rfl
  try simp only [Act.put, List.setIfInBounds_toArray, List.set_cons_zero, List.set_cons_succ]
  refine wpAnyH_take (i := 5) (oi := ⟨some 10, _, _, _, _, _⟩) (v := ?v5) rfl (by kernel_rfl) (by kernel_rfl) (by kernel_rfl) (fun _ _ _ h => h) (Or.inl ⟨by rfl, ?y5⟩) hHeld ?r5
  case y5 =>
    rintro w' hSw
    go_simp
    try with_reducible rfl
  try simp only [Act.put, List.setIfInBounds_toArray, List.set_cons_zero, List.set_cons_succ]
  refine wpAnyH_take (i := 6) (oi := ⟨some 11, _, _, _, _, _⟩) (v := ?v6) rfl (by kernel_rfl) (by kernel_rfl) (by kernel_rfl) (fun _ _ _ h => h) (Or.inl ⟨by rfl, ?y6⟩) hHeld ?r6
  case y6 =>
    rintro w' hSw
    go_simp
    try with_reducible rfl
  try simp only [Act.put, List.setIfInBounds_toArray, List.set_cons_zero, List.set_cons_succ]
  refine wpAnyH_take (i := 7) (oi := ⟨some 12, _, _, _, _, _⟩) (v := ?v7) rfl (by kernel_rfl) (by kernel_rfl) (by kernel_rfl) (fun _ _ _ h => h) (Or.inl ⟨by rfl, ?y7⟩) hHeld ?r7
  case y7 =>
    rintro w' hSw
    go_simp
    try with_reducible rfl
  try simp only [Act.put, List.setIfInBounds_toArray, List.set_cons_zero, List.set_cons_succ]
  refine wpAnyH_take (i := 8) (oi := ⟨some 13, _, _, _, _, _⟩) (v := ?v8) rfl (by kernel_rfl) (by kernel_rfl) (by kernel_rfl) (fun _ _ _ h => h) (Or.inl ⟨by rfl, ?y8⟩) hHeld ?r8
  case y8 =>
    rintro w' hSw
    have e4 : w'.cell? ⟨g, 4, none⟩ = some (.int .i64 (used : Int)) := hSw.cell 4
    go_simp
    try with_reducible rfl
  try simp only [Act.put, List.setIfInBounds_toArray, List.set_cons_zero, List.set_cons_succ]
  refine wpAnyH_take (i := 9) (oi := ⟨some 14, _, _, _, _, _⟩) (v := ?v9) rfl (by kernel_rfl) (by kernel_rfl) (by kernel_rfl) (fun _ _ _ h => h) (Or.inl ⟨by rfl, ?y9⟩) hHeld ?r9
  case y9 =>
    rintro w' hSw
    go_simp
    try with_reducible rfl
  try simp only [Act.put, List.setIfInBounds_toArray, List.set_cons_zero, List.set_cons_succ]
  refine wpAnyH_take (i := 10) (oi := ⟨some 2, _, _, _, _, _⟩) (v := ?v10) rfl (by kernel_rfl) (by kernel_rfl) (by kernel_rfl) (fun _ _ _ h => h) (Or.inl ⟨by rfl, ?y10⟩) hHeld ?r10
  case y10 =>
    rintro w' hSw
    go_simp
    try with_reducible rfl
  try simp only [Act.put, List.setIfInBounds_toArray, List.set_cons_zero, List.set_cons_succ]
  refine wpAnyH_done (by kernel_rfl) ?_ _
  go_wp2
  go_ret
  exact ⟨ret_int (by omega), rfl⟩
theorem left_nil (w : World) : Calls Try.prog 24 #[.pointer none] w fun e w' => e = .returned (.int .i64 0) ∧ w = w' := by
  go_enter Try.func24, Try.ntmps24
  go_wp2
  go_ret
  exact ⟨rfl, rfl⟩
theorem len_log (g dg area t n c used : Nat) (A : Option Addr) (br : Bool) (w : World) (h : Row w g 83 (wcs dg area t A (n + 1) c used br)) (hn : n ≤ 100000) :
    Calls Try.prog 23 #[.pointer (some ⟨g, 0, none⟩)] w fun e w' => e = .returned (.int .i64 (n : Int)) ∧ w = w' := by
  have c3 : w.cell? ⟨g, 3, none⟩ = some (.slice A (n + 1) c) := h.cell 3
  go_enter Try.func23, Try.ntmps23
  go_wp2
  go_ret
  exact ⟨ret_int (by omega), rfl⟩
end Go.Proofs.Yteemdjamgbbjhaa.Wl

/-
  Append, where there is room.
-/
namespace Go.Proofs.Yteemdjamgbbjhaa.Wl
set_option maxRecDepth 100000
open Go.RowKit Go.Shelf Go.Proofs.Yteemdjamgbbjhaa.Wd Go.Proofs.Yteemdjamgbbjhaa.Dsk Go.Proofs.Yteemdjamgbbjhaa.Oct Go.Proofs.Yteemdjamgbbjhaa.Sum

/-- rows of bytes, and of slices of bytes, lie as they lay -/
def KeepR (w w' : World) : Prop := ∀ k t cs, t = 37 ∨ t = 5 → Row w k t cs → Row w' k t cs
theorem KeepR.trans {a b c : World} (h : KeepR a b) (k : KeepR b c) : KeepR a c := fun i t cs ht hr => k i t cs ht (h i t cs ht hr)
theorem keepR_below {w w' : World} (hb : Below w.heap.size w w') : KeepR w w' := fun _ _ _ _ hr => hr.below hb hr.lt
theorem keepR_off {w w' : World} {F : Nat → Prop} {g dg : Nat} {d : DM} {cs : List Value} (hd : Dk w F dg d) (hg : Row w g 83 cs) (ho : Off (fun k => F k ∨ k = g) w w') : KeepR w w' := fun k t cs' ht hr =>
  (ho.block k hr.lt (fun h => h.elim (fun h => by rcases ht with rfl | rfl <;> exact hd.not hr (by decide) (by decide) (by decide) h) (fun e => by
    subst e
    have := row_type hr hg
    rcases ht with rfl | rfl <;> exact absurd this (by decide)))).trans hr
theorem own_keepR {w w' : World} {e : TypeId} {v : Value} {n : Nat} {xs : List Value} (h : w.ownsRow 0 e 1 v n xs) (he : e = 37 ∨ e = 5) (hk : KeepR w w') : w'.ownsRow 0 e 1 v n xs := by
  rcases h with ⟨hl, hv | ⟨g, cap, cur, hv, hb, hg, hr⟩⟩
  · exact ⟨hl, .inl hv⟩
  · have h0 : Row w g e cur.toList := by show _ = _; simpa using hg
    have h1 : w'.heap[g]? = _ := hk g e _ he h0
    exact ⟨hl, .inr ⟨g, cap, cur, hv, hb, by simpa using h1, hr⟩⟩
theorem By.keepR {w w' : World} {A : Option Addr} {n c : Nat} {l : List UInt8} (h : By w A n c l) (hk : KeepR w w') : By w' A n c l := own_keepR h (.inr rfl) hk
theorem keepR_grown {w w' : World} {g : Nat} {t : TypeId} {cs : List Value} (hr : Row w g t cs) (ht : t ≠ 37 ∧ t ≠ 5) (hg : w.grownBy w' (some g)) : KeepR w w' := fun k t' cs' ht' hr' => (hg.block k hr'.lt (fun e => by
  cases e
  have := row_type hr hr'
  rcases ht' with rfl | rfl
  · exact ht.1 this
  · exact ht.2 this)).trans hr'
theorem Dk.grown {w w' : World} {F : Nat → Prop} {g dg : Nat} {t : TypeId} {cs : List Value} {d : DM} (h : Dk w F dg d) (hr : Row w g t cs) (h1 : t ≠ 77) (h2 : t ≠ 121) (h3 : t ≠ 89) (hg : w.grownBy w' (some g)) : Dk w' F dg d := by
  have hn : ¬ F g := h.not hr h1 h2 h3
  refine ⟨h.1.off (F' := fun k => k = g) (fun k hk e => hn (e ▸ hk)) (Off.of_grown hg (fun k e => (Option.some.inj e).symm)), fun k t' cs' hr' hk => ?_⟩
  have hkg : k ≠ g := fun e => hn (e ▸ hk)
  exact h.2 k t' cs' ((hg.block k (h.1.2 k hk) (fun e => hkg (Option.some.inj e))).symm.trans hr') hk
theorem own_type {w : World} {e : TypeId} {v : Value} {n k : Nat} {xs : List Value} (h : w.ownsRow 0 e 1 v n xs) (hk : v.ownBlock = some k) : ∃ cs, Row w k e cs := by
  rcases h.2 with ⟨hv, _⟩ | ⟨g', cap, cur, hv, _, hg', _⟩
  · rw [hv] at hk; cases hk
  · rw [hv] at hk
    cases hk
    exact ⟨cur.toList, by show _ = _; simpa using hg'⟩
/-- what an Append leaves, that has written -/
def Appd (w w' : World) (F G : Nat → Prop) (g dg area t : Nat) (fs : List (List UInt8)) (b : List UInt8) (d : DM) (f : Int) : Prop :=
  ∃ F' G', Dk w' F' dg (layM (pairsM t fs.length b) f d).1 ∧ Ext F F' w w' ∧ Ext G G' w w' ∧ Off (fun k => F k ∨ G k) w w' ∧
    Log w' G' g dg area t (if (layM (pairsM t fs.length b) f d).2 = 0 then fs ++ [b] else fs) (decide ((layM (pairsM t fs.length b) f d).2 ≠ 0))
theorem wcs_ccs (dg area t : Nat) (A : Option Addr) (n c u : Nat) (br : Bool) : ∀ j v, (ccs t A n c u)[j]? = some v → (wcs dg area t A n c u br)[2 + j]? = some v
  | 0, _, h => h
  | 1, _, h => h
  | 2, _, h => h
  | j + 3, _, h => by simp [ccs] at h
set_option maxHeartbeats 8000000 in
theorem append_ok (g dg area t : Nat) (fs : List (List UInt8)) (A2 : Option Addr) (m c2 : Nat) (b : List UInt8) (d : DM) (F G : Nat → Prop) (w : World)
    (hlog : Log w G g dg area t fs false) (hd : Dk w F dg d) (hs : Sl w w.heap.size A2 m c2 b) (hm : m ≤ 40000) (ha : area ≤ 1000) (ht : t < 4294967296) (hu : usedM fs ≤ area) (hroom : sects m ≤ area - usedM fs) (hn : fs.length ≤ 10000) (hp : d.pend.length ≤ 900000) :
    Calls Try.prog 16 #[.pointer (some ⟨g, 0, none⟩), .slice A2 m c2] w fun e w' => e = .returned (.int .i64 (layM (pairsM t fs.length b) ((2 + t % 2 * area + usedM fs : Nat) : Int) d).2) ∧
      Appd w w' F G g dg area t fs b d ((2 + t % 2 * area + usedM fs : Nat) : Int) := by
  have mixed : Try.prog.follows .mixedOrders = true := by kernel_rfl
  obtain ⟨A, c, xs, hrw, hown, hGg, hGo, hby⟩ := hlog
  obtain ⟨used, hus⟩ : ∃ used, usedM fs = used := ⟨_, rfl⟩
  rw [hus] at hrw hu hroom ⊢
  obtain ⟨n, hnl⟩ : ∃ n, fs.length = n := ⟨_, rfl⟩
  rw [hnl] at hrw hown hGo hby hn ⊢
  obtain ⟨fr, hfr⟩ : ∃ fr, 2 + t % 2 * area + used = fr := ⟨_, rfl⟩
  rw [hfr]
  have HFR := Lib.hid hfr
  clear hfr
  have hml : b.length = m := hs.len
  have HS := Lib.hid hs
  have HR := Lib.hid hrw
  have HO := Lib.hid hown
  have HBY := Lib.hid hby
  have HD := Lib.hid hd
  have HRF := Lib.hid (refuses_any g dg area t used n c A false A2 m c2 w hrw)
  have HSE := Lib.hid (sectors_any m w hm)
  have HLF := Lib.hid (left_any g dg area t n c used A false w hrw ha hu)
  have hrm : ¬ ((area - used : Nat) : Int) < (sects m : Int) := by omega
  have hGO := Lib.hid hGo
  have HUS := Lib.hid hus
  have HNL := Lib.hid hnl
  have hm2 : ¬ 40000 < m := by omega
  rw [if_neg hm2, if_neg (by simp)] at HRF
  clear hs hrw hown hby hd hGo hus hnl
  go_enter Try.func16, Try.ntmps16
  go_wp2_with fail
  refine (HRF.out).mono ?_
  rintro e w1 ⟨rfl, hx⟩
  subst hx
  go_wp2_with fail
  refine (HSE.out).mono ?_
  rintro e w1 ⟨rfl, hx⟩
  subst hx
  go_wp2_with fail
  refine (HLF.out).mono ?_
  rintro e w1 ⟨rfl, hw1⟩
  have hb1 : Below w.heap.size w w1 := by rw [hw1]; exact (Below.refl _ _).drew
  have R1 := Lib.hid (HR.out.below hb1 HR.out.lt)
  have HS1 := Lib.hid ((HS.out.below hb1).more hb1.size)
  have HB1 := Lib.hid hb1
  have HCI := Lib.hid (show (Try.prog.info? 81).map (·.size) = some (ccs t A n c used).length from size81)
  have HRG := Lib.hid (Row.range R1.out (wcs_ccs dg area t A n c used false))
  clear hb1 hw1 HRF HSE HLF
  go_wp2_with (first
    | (with_reducible refine wpList_load_row (op := ⟨some 23, _, _, _, _, _⟩) ?_ 81 (.tmp 22) ?_ g 2 ?_ (ccs t A n c used) _ HRG.out Try.underlying81 ?_ HCI.out ?_))
  all_goals try (first | rfl | (simp; done))
  go_wp2_with fail
  refine (next_any t n c used A A2 m c2 b w1 HS1.out hm (by omega) ht).mono ?_
  rintro e w2 ⟨Ab, cb, rfl, hby2, hab, hb2⟩
  have R2 := Lib.hid (R1.out.below hb2 R1.out.lt)
  have HB2 := Lib.hid (HB1.out.trans (hb2.mono HB1.out.size))
  have HBY2 := Lib.hid hby2
  have HAB : Hid (∀ k, (Value.slice Ab m cb).ownBlock = some k → w.heap.size ≤ k) := Lib.hid fun k hk => Nat.le_trans HB1.out.size (hab k hk)
  have HLC := Lib.hid (show (fcs t n Ab m cb).length = nofr.length from rfl)
  have HI := Lib.hid (show (Try.prog.info? 101).map (·.size) = some (fcs t n Ab m cb).length from size101)
  clear hby2 hab hb2
  go_wp2_with (first
    | (with_reducible refine wpList_store_whole (op := ⟨none, _, _, _, _, _⟩) ?_ 101 (.tmp 6) (.tmp 25) ?_ w2.heap.size (fcs t n Ab m cb) ?_ ?_ 101 nofr ?hrow HLC.out (fcs_one _ _ _ _ _) HI.out ?_))
  case hrow => exact Row.new w2 _ nofr
  all_goals try (first | rfl | (simp; done))
  intro w3 hr3 hg3
  have hb3 : Below w2.heap.size w2 w3 := ((Below.refl _ _).alloc (Nat.le_refl _) _).grown hg3 (by simp) (fun k hk => by cases hk; exact Nat.le_refl _)
  obtain ⟨b6, hb6⟩ : ∃ b6, w2.heap.size = b6 := ⟨_, rfl⟩
  have hb6w : w.heap.size ≤ b6 := by rw [← hb6]; exact HB2.out.size
  rw [hb6] at hr3
  have R3 := Lib.hid (R2.out.below hb3 R2.out.lt)
  have R63 := Lib.hid hr3
  have HB3 := Lib.hid (HB2.out.trans (hb3.mono HB2.out.size))
  have HBY3 := Lib.hid (HBY2.out.keepR (keepR_below hb3))
  have HB6 := Lib.hid hb6w
  clear hr3 hg3 hb3 hb6w
  go_wp2_with fail
  rw [hb6]
  clear hb6
  refine wp_region_held_drew (S := (fun w' => Row w' b6 101 (fcs t n Ab m cb))) (by kernel_rfl) R63.out (fun hHeld => ?_)
  refine wpAnyH_take (i := 0) (oi := ⟨some 26, _, _, _, _, _⟩) (v := ?v0) rfl (by kernel_rfl) (by kernel_rfl) (by kernel_rfl) (fun _ _ _ h => h) (Or.inl ⟨by rfl, ?y0⟩) hHeld ?r0
  case y0 =>
    rintro w' hSw
    go_simp
    try with_reducible rfl
  try simp only [Act.put, List.setIfInBounds_toArray, List.set_cons_zero, List.set_cons_succ]
  refine wpAnyH_take (i := 1) (oi := ⟨some 27, _, _, _, _, _⟩) (v := ?v1) rfl (by kernel_rfl) (by kernel_rfl) (by kernel_rfl) (fun _ _ _ h => h) (Or.inl ⟨by rfl, ?y1⟩) hHeld ?r1
  case y1 =>
    rintro w' hSw
    go_simp
    try with_reducible rfl
  try simp only [Act.put, List.setIfInBounds_toArray, List.set_cons_zero, List.set_cons_succ]
  refine wpAnyH_take (i := 3) (oi := ⟨some 29, _, _, _, _, _⟩) rfl (by kernel_rfl) (by kernel_rfl) (by kernel_rfl) (fun _ _ _ h => h) (yieldsIf_load_mid (by rfl) 101 (.tmp 6) rfl b6 0 ?x3 (fcs t n Ab m cb) _ (fun _ hS => Row.all hS) Try.underlying101 rfl HI.out) hHeld ?r3
  case x3 => first | rfl | (simp [Act.eval, go_sem]; done)
  try simp only [Act.put, List.setIfInBounds_toArray, List.set_cons_zero, List.set_cons_succ]
  refine wpAnyH_ready (rs := [2]) (by kernel_rfl) (by simp) ?_
  refine AllReadyH.cons rfl (fun K hK => ?_) AllReadyH.nil
  go_simp
  refine (end_any g dg area t n c used A false w3.drew (Row.drew R3.out) ha ht (by omega)).mono ?_
  rintro e w4 ⟨rfl, hw4⟩
  have hb4 : Below w3.heap.size w3 w4 := by rw [hw4]; exact (Below.refl _ _).drew.drew
  clear hw4
  have R64 := Lib.hid (R63.out.below hb4 R63.out.lt)
  have HB4 := Lib.hid (HB3.out.trans (hb4.mono HB3.out.size))
  have HBY4 := Lib.hid (HBY3.out.keepR (keepR_below hb4))
  clear hb4
  refine hK _ _ R64.out (fun _ => ?_)
  clear hK K
  try simp only [Act.put, List.setIfInBounds_toArray, List.set_cons_zero, List.set_cons_succ]
  refine wpAnyH_ready (rs := [4]) (by kernel_rfl) (by simp) ?_
  refine AllReadyH.cons rfl (fun K hK => ?_) AllReadyH.nil
  go_simp
  refine (parts_any t n Ab m cb w4).mono ?_
  rintro e w5 ⟨rfl, hw5⟩
  have r95 : Row w5 w4.heap.size 101 (fcs t n Ab m cb) := by rw [hw5]; exact Row.new w4 _ _
  have hb5 : Below w4.heap.size w4 w5 := by rw [hw5]; exact (Below.refl _ _).alloc (Nat.le_refl _) _
  clear hw5
  have R65 := Lib.hid (R64.out.below hb5 R64.out.lt)
  have HB5 := Lib.hid (HB4.out.trans (hb5.mono HB4.out.size))
  have HBY5 := Lib.hid (HBY4.out.keepR (keepR_below hb5))
  have R95 := Lib.hid r95
  clear hb5 r95
  refine hK _ _ R65.out (fun _ => ?_)
  clear hK K
  try simp only [Act.put, List.setIfInBounds_toArray, List.set_cons_zero, List.set_cons_succ]
  refine wpAnyH_ready (rs := [5]) (by kernel_rfl) (by simp) ?_
  refine AllReadyH.cons rfl (fun K hK => ?_) AllReadyH.nil
  go_simp
  have hfr := HFR.out
  have hf1 : fr ≤ 10000 := by
    rw [← hfr]
    rcases Nat.mod_two_eq_zero_or_one t with e | e <;> rw [e] <;> omega
  have hl2 : (pairsM t n b).length = sects b.length := by simp [pairsM]
  have hl3 := sects_most b.length (by omega)
  have R5 : Row w5 g 83 (wcs dg area t A n c used false) := HR.out.below HB5.out HR.out.lt
  have HLY := lay_dk g dg area t n c used A false fr _ _ (pairsM t n b) d F w5 R5 (HD.out.below HB5.out) (by omega) hf1 (enters_of Try.func78 (by kernel_rfl) rfl) (parts_seq R95.out HBY5.out hm ht (by omega))
  have hfi2 : (2 : Int) + (t : Int) % 2 * (area : Int) + (used : Int) = (fr : Int) := by rw [← hfr]; simp
  rw [hfi2]
  refine HLY.mono ?_
  rintro e w6 ⟨rfl, F6, hd6, hx6, ho6, hr6⟩
  obtain ⟨d1, hd1⟩ : ∃ d1, (layM (pairsM t n b) (fr : Int) d).1 = d1 := ⟨_, rfl⟩
  obtain ⟨er, her⟩ : ∃ er, (layM (pairsM t n b) (fr : Int) d).2 = er := ⟨_, rfl⟩
  rw [hd1] at hd6
  rw [her] at hr6 ⊢
  rw [Bool.false_or] at hr6
  have hk6 : KeepR w5 w6 := keepR_off (HD.out.below HB5.out) R5 ho6
  have hk06 : KeepR w w6 := (keepR_below HB5.out).trans hk6
  have R66 : Hid (Row w6 b6 101 (fcs t n Ab m cb)) := (ho6.block _ R65.out.lt (fun h => h.elim ((HD.out.below HB5.out).not R65.out (by decide) (by decide) (by decide)) (fun e => by have := HB6.out; have := HR.out.lt; omega))).trans R65.out
  have HBY6 := Lib.hid (HBY5.out.keepR hk6)
  have HO6 : Hid (w6.ownsRow 0 37 1 (.slice A n c) n xs) := Lib.hid (own_keepR HO.out (.inl rfl) hk06)
  have HBYS : Hid (∀ i, i < n → ∃ Ai ni ci, xs[i]? = some (.slice Ai ni ci) ∧ By w6 Ai ni ci (fs.getD i []) ∧ ni ≤ 40000 ∧ ∀ k, (Value.slice Ai ni ci).ownBlock = some k → G k) := Lib.hid fun i hi => by
    obtain ⟨Ai, ni, ci, h1, h2, h3, h4⟩ := HBY.out i hi
    exact ⟨Ai, ni, ci, h1, h2.keepR hk06, h3, h4⟩
  have HOF6 : Hid (Off (fun k => F k ∨ G k) w w6) := Lib.hid ⟨ho6.os.trans HB5.out.os, ho6.tape.trans HB5.out.tape, ho6.output.trans HB5.out.output, Nat.le_trans HB5.out.size ho6.size, fun k hk hn => (ho6.block k (Nat.lt_of_lt_of_le hk HB5.out.size) (fun h => h.elim (fun h => hn (.inl h)) (fun e => hn (.inr (e ▸ hGg))))).trans (HB5.out.block k hk)⟩
  have HX6 : Hid (Ext F F6 w w6) := Lib.hid fun k hk => by
    rcases hx6 k hk with h | h
    · exact .inl h
    · exact .inr ⟨Nat.le_trans HB5.out.size h.1, h.2⟩
  have HD6 := Lib.hid hd6
  have HR6 := Lib.hid hr6
  have HD1 := Lib.hid hd1
  have HER := Lib.hid her
  clear HLY hd6 hx6 ho6 hr6 hd1 her hk6 hk06 hfr hf1 hl2 hl3 R5 hfi2
  refine hK _ _ R66.out (fun _ => ?_)
  clear hK K
  try simp only [Act.put, List.setIfInBounds_toArray, List.set_cons_zero, List.set_cons_succ]
  refine wpAnyH_take (i := 6) (oi := ⟨some 7, _, _, _, _, _⟩) (v := ?v6) rfl (by kernel_rfl) (by kernel_rfl) (by kernel_rfl) (fun _ _ _ h => h) (Or.inl ⟨by rfl, ?y6⟩) R66.out ?r6
  case y6 =>
    rintro w' hSw
    go_simp
    try with_reducible rfl
  try simp only [Act.put, List.setIfInBounds_toArray, List.set_cons_zero, List.set_cons_succ]
  refine wpAnyH_done (by kernel_rfl) ?_ _
  by_cases h0 : er = 0
  · subst h0
    go_wp2_with fail
    refine wp_region_held_drew (S := (fun w' => Row w' b6 101 (fcs t n Ab m cb))) (by kernel_rfl) R66.out (fun hHeld2 => ?_)
    refine wpAnyH_take (i := 0) (oi := ⟨some 35, _, _, _, _, _⟩) (v := ?v0z) rfl (by kernel_rfl) (by kernel_rfl) (by kernel_rfl) (fun _ _ _ h => h) (Or.inl ⟨by rfl, ?y0z⟩) hHeld2 ?r0z
    case y0z =>
      rintro w' hSw
      go_simp
      try with_reducible rfl
    try simp only [Act.put, List.setIfInBounds_toArray, List.set_cons_zero, List.set_cons_succ]
    refine wpAnyH_take (i := 1) (oi := ⟨some 36, _, _, _, _, _⟩) (v := ?v1z) rfl (by kernel_rfl) (by kernel_rfl) (by kernel_rfl) (fun _ _ _ h => h) (Or.inl ⟨by rfl, ?y1z⟩) hHeld2 ?r1z
    case y1z =>
      rintro w' hSw
      go_simp
      try with_reducible rfl
    try simp only [Act.put, List.setIfInBounds_toArray, List.set_cons_zero, List.set_cons_succ]
    refine wpAnyH_take (i := 2) (oi := ⟨some 37, _, _, _, _, _⟩) (v := ?v2z) rfl (by kernel_rfl) (by kernel_rfl) (by kernel_rfl) (fun _ _ _ h => h) (Or.inl ⟨by rfl, ?y2z⟩) hHeld2 ?r2z
    case y2z =>
      rintro w' hSw
      go_simp
      try with_reducible rfl
    try simp only [Act.put, List.setIfInBounds_toArray, List.set_cons_zero, List.set_cons_succ]
    refine wpAnyH_take (i := 3) (oi := ⟨some 38, _, _, _, _, _⟩) (v := ?v3z) rfl (by kernel_rfl) (by kernel_rfl) (by kernel_rfl) (fun _ _ _ h => h) (Or.inl ⟨by rfl, ?y3z⟩) hHeld2 ?r3z
    case y3z =>
      rintro w' hSw
      go_simp
      try with_reducible rfl
    try simp only [Act.put, List.setIfInBounds_toArray, List.set_cons_zero, List.set_cons_succ]
    refine wpAnyH_take (i := 5) (oi := ⟨some 40, _, _, _, _, _⟩) rfl (by kernel_rfl) (by kernel_rfl) (by kernel_rfl) (fun _ _ _ h => h) (yieldsIf_load_mid (by rfl) 101 (.tmp 6) rfl b6 0 ?x5z (fcs t n Ab m cb) _ (fun _ hS => Row.all hS) Try.underlying101 rfl HI.out) hHeld2 ?r5z
    case x5z => first | rfl | (simp [Act.eval, go_sem]; done)
    try simp only [Act.put, List.setIfInBounds_toArray, List.set_cons_zero, List.set_cons_succ]
    have HRG6 := Lib.hid (Row.range (Row.drew HR6.out) (wcs_ccs dg area t A n c used (decide ((0 : Int) ≠ 0))))
    refine wpAnyH_ready (rs := [4]) (by kernel_rfl) (by simp) ?_
    refine AllReadyH.cons rfl (fun K hK => ?_) AllReadyH.nil
    rw [if_pos (by rfl)]
    refine wp_load_mid 81 (.tmp 38) rfl g 2 (by rfl) (ccs t A n c used) _ HRG6.out Try.underlying81 rfl HCI.out ?_
    refine hK _ _ R66.out (fun _ => ?_)
    clear hK K
    try simp only [Act.put, List.setIfInBounds_toArray, List.set_cons_zero, List.set_cons_succ]
    refine wpAnyH_ready (rs := [6]) (by kernel_rfl) (by simp) ?_
    refine AllReadyH.cons rfl (fun K hK => ?_) AllReadyH.nil
    go_simp
    refine (with_any t n c used A xs t n Ab m cb w6.drew (own_below HO6.out (Below.refl _ _).drew) hm (by omega) (by omega)).mono ?_
    rintro e w7 ⟨A', c', rfl, hown, hblk, hgd⟩
    replace hgd : w6.grownBy w7 (Value.slice A n c).ownBlock := ⟨hgd.os, hgd.tape, hgd.output, hgd.size, hgd.block⟩
    replace hblk : ∀ k, (Value.slice A' (n + 1) c').ownBlock = some k → (Value.slice A n c).ownBlock = some k ∨ w6.heap.size ≤ k := hblk
    have hne : ∀ k t' cs, Row w6 k t' cs → t' ≠ 37 → some k ≠ (Value.slice A n c).ownBlock := fun k t' cs hr ht e => by
      obtain ⟨cs', h'⟩ := own_type HO6.out e.symm
      exact ht (row_type hr h')
    have R67 : Hid (Row w7 b6 101 (fcs t n Ab m cb)) := R66.out.grown hgd (hne _ _ _ R66.out (by decide))
    have HR7 : Hid (Row w7 g 83 (wcs dg area t A n c used (decide ((0 : Int) ≠ 0)))) := HR6.out.grown hgd (hne _ _ _ HR6.out (by decide))
    have hby7 : ∀ {A2 : Option Addr} {n2 c2 : Nat} {l : List UInt8}, By w6 A2 n2 c2 l → By w7 A2 n2 c2 l := fun h => own_kept h fun k hk hlt => by
      obtain ⟨cs', h'⟩ := own_type h hk
      exact hgd.block k hlt (hne _ _ _ h' (by decide))
    have HBY7 := Lib.hid (hby7 HBY6.out)
    have HBYS7 : Hid (∀ i, i < n → ∃ Ai ni ci, xs[i]? = some (.slice Ai ni ci) ∧ By w7 Ai ni ci (fs.getD i []) ∧ ni ≤ 40000 ∧ ∀ k, (Value.slice Ai ni ci).ownBlock = some k → G k) := Lib.hid fun i hi => by
      obtain ⟨Ai, ni, ci, h1, h2, h3, h4⟩ := HBYS.out i hi
      exact ⟨Ai, ni, ci, h1, hby7 h2, h3, h4⟩
    have HO7 : Hid (w7.ownsRow 0 37 1 (.slice A' (n + 1) c') (n + 1) (xs ++ [.slice Ab m cb])) := hown
    have HBK : Hid (∀ k, (Value.slice A' (n + 1) c').ownBlock = some k → G k ∨ w.heap.size ≤ k) := Lib.hid fun k hk => by
      rcases hblk k hk with h | h
      · exact .inl (hGO.out k h)
      · exact .inr (Nat.le_trans HOF6.out.size h)
    have HD7 : Hid (Dk w7 F6 dg d1) := Lib.hid ⟨HD6.out.1.off (F' := fun k => (Value.slice A n c).ownBlock = some k) (fun k hk e => by
      obtain ⟨cs', h'⟩ := own_type HO6.out e
      exact HD6.out.not h' (by decide) (by decide) (by decide) hk) (Off.of_grown hgd (fun k e => e)), fun k t' cs' hr hk => HD6.out.2 k t' cs' ((hgd.block k (HD6.out.1.2 k hk) (fun e => by
      obtain ⟨cs', h'⟩ := own_type HO6.out e.symm
      exact HD6.out.not h' (by decide) (by decide) (by decide) hk)).symm.trans hr) hk⟩
    have HOF7 : Hid (Off (fun k => F k ∨ G k) w w7) := Lib.hid (HOF6.out.grown hgd (fun r e => .inl (.inr (hGO.out r e))))
    have HSZ7 : Hid (w6.heap.size ≤ w7.heap.size) := hgd.size
    clear hown hblk hgd hne hby7
    refine hK _ _ R67.out (fun _ => ?_)
    clear hK K
    try simp only [Act.put, List.setIfInBounds_toArray, List.set_cons_zero, List.set_cons_succ]
    refine wpAnyH_take (i := 7) (oi := ⟨some 42, _, _, _, _, _⟩) (v := ?v7z) rfl (by kernel_rfl) (by kernel_rfl) (by kernel_rfl) (fun _ _ _ h => h) (Or.inl ⟨by rfl, ?y7z⟩) R67.out ?r7z
    case y7z =>
      rintro w' hSw
      go_simp
      try with_reducible rfl
    try simp only [Act.put, List.setIfInBounds_toArray, List.set_cons_zero, List.set_cons_succ]
    refine wpAnyH_take (i := 8) (oi := ⟨some 43, _, _, _, _, _⟩) (v := ?v8z) rfl (by kernel_rfl) (by kernel_rfl) (by kernel_rfl) (fun _ _ _ h => h) (Or.inl ⟨by rfl, ?y8z⟩) R67.out ?r8z
    case y8z =>
      rintro w' hSw
      go_simp
      try with_reducible rfl
    try simp only [Act.put, List.setIfInBounds_toArray, List.set_cons_zero, List.set_cons_succ]
    refine wpAnyH_ready (rs := [9]) (by kernel_rfl) (by simp) ?_
    refine AllReadyH.cons rfl (fun K hK => ?_) AllReadyH.nil
    have HCI7 : Hid ((Try.prog.info? 81).map (·.size) = some (ccs t A' (n + 1) c' (used + sects m)).length) := Lib.hid size81
    rw [if_pos (by rfl)]
    refine wp_store_mid 81 (.tmp 43) (.tmp 41) rfl g 2 (ccs t A' (n + 1) c' (used + sects m)).toArray (by rfl) (by rfl) (Row.there HR7.out (by exact Nat.le_of_ble_eq_true rfl)) HCI7.out (all_oneCell_toArray (ccs_one _ _ _ _ _)) ?_
    rw [List.toList_toArray]
    have hr8 := Row.setCells (ccs t A' (n + 1) c' (used + sects m)) 2 (wcs dg area t A n c used (decide ((0 : Int) ≠ 0))) w7 HR7.out (by exact Nat.le_of_ble_eq_true rfl)
    have hg8 := grown_setCells g (ccs t A' (n + 1) c' (used + sects m)) 2 w7
    generalize w7.setCells g 2 (ccs t A' (n + 1) c' (used + sects m)) = w8 at hr8 hg8 ⊢
    have hkr : KeepR w7 w8 := keepR_grown HR7.out (by decide) hg8
    have R68 : Hid (Row w8 b6 101 (fcs t n Ab m cb)) := R67.out.grown hg8 (fun e => by have := row_type R67.out ((Option.some.inj e) ▸ HR7.out); exact absurd this (by decide))
    have HFIN : Hid (Row w8 g 83 (wcs dg area t A' (n + 1) c' (used + sects m) false) ∧ w8.ownsRow 0 37 1 (.slice A' (n + 1) c') (n + 1) (xs ++ [.slice Ab m cb]) ∧ By w8 Ab m cb b ∧
        (∀ i, i < n → ∃ Ai ni ci, xs[i]? = some (.slice Ai ni ci) ∧ By w8 Ai ni ci (fs.getD i []) ∧ ni ≤ 40000 ∧ ∀ k, (Value.slice Ai ni ci).ownBlock = some k → G k) ∧ Dk w8 F6 dg d1 ∧ Off (fun k => F k ∨ G k) w w8 ∧ w6.heap.size ≤ w8.heap.size) := Lib.hid
      ⟨by simpa [splice, wcs, ccs] using hr8, own_keepR HO7.out (.inl rfl) hkr, HBY7.out.keepR hkr, fun i hi => by
        obtain ⟨Ai, ni, ci, h1, h2, h3, h4⟩ := HBYS7.out i hi
        exact ⟨Ai, ni, ci, h1, h2.keepR hkr, h3, h4⟩, HD7.out.grown HR7.out (by decide) (by decide) (by decide) hg8, HOF7.out.grown hg8 (fun r e => .inl (.inr ((Option.some.inj e) ▸ hGg))), Nat.le_trans HSZ7.out hg8.size⟩
    clear hr8 hg8 hkr
    refine hK _ _ R68.out (fun _ => ?_)
    clear hK K
    try simp only [Act.put, List.setIfInBounds_toArray, List.set_cons_zero, List.set_cons_succ]
    refine wpAnyH_done (by kernel_rfl) ?_ _
    go_wp2
    go_ret
    obtain ⟨f1, f2, f3, f4, f5, f6, f7⟩ := HFIN.out
    have hxl : xs.length = n := by have := HO.out.1; omega
    refine ⟨ret_int HER.out.symm, F6, fun k => G k ∨ (w.heap.size ≤ k ∧ k < w8.heap.size), by rw [HNL.out, HD1.out]; exact f5, fun k hk => ?_, fun k hk => hk, f6, ?_⟩
    · rcases HX6.out k hk with h | h
      · exact .inl h
      · exact .inr ⟨h.1, Nat.lt_of_lt_of_le h.2 f7⟩
    · have hus : usedM (fs ++ [b]) = used + sects m := by
        have := HUS.out
        simp only [usedM, List.map_append, List.sum_append, List.map_cons, List.map_nil, List.sum_cons, List.sum_nil] at this ⊢
        rw [this, hml]; omega
      rw [if_pos (by rw [HNL.out]; exact HER.out), HNL.out, HER.out]
      refine ⟨A', c', xs ++ [.slice Ab m cb], ?_, ?_, .inl hGg, ?_, ?_⟩
      · rw [hus, List.length_append, HNL.out]; exact f1
      · rw [List.length_append, HNL.out]; exact f2
      · rw [List.length_append, HNL.out]
        intro k hk
        rcases HBK.out k hk with h | h
        · exact .inl h
        · exact .inr ⟨h, own_lt f2 hk⟩
      · rw [List.length_append, HNL.out]
        intro i hi
        have hi2 : i ≤ n := by simpa using Nat.le_of_lt_succ hi
        by_cases hin : i < n
        · obtain ⟨Ai, ni, ci, h1, h2, h3, h4⟩ := f4 i hin
          refine ⟨Ai, ni, ci, ?_, ?_, h3, fun k hk => .inl (h4 k hk)⟩
          · rw [List.getElem?_append_left (by omega)]; exact h1
          · rw [List.getD_eq_getElem?_getD, List.getElem?_append_left (by rw [HNL.out]; exact hin), ← List.getD_eq_getElem?_getD]; exact h2
        · obtain rfl : i = n := by omega
          refine ⟨Ab, m, cb, ?_, ?_, hm, fun k hk => .inr ⟨HAB.out k hk, own_lt f3 hk⟩⟩
          · rw [List.getElem?_append_right (by omega), hxl, Nat.sub_self]; rfl
          · rw [List.getD_eq_getElem?_getD, List.getElem?_append_right (by rw [HNL.out]; omega), HNL.out, Nat.sub_self]; exact f3
  · go_wp2
    go_ret
    refine ⟨ret_int HER.out.symm, F6, G, by rw [HNL.out, HD1.out]; exact HD6.out, HX6.out, Ext.refl _ _ _, HOF6.out, ?_⟩
    rw [if_neg (by rw [HNL.out, HER.out]; exact h0), HNL.out, HER.out]
    refine ⟨A, c, xs, ?_, ?_, hGg, ?_, ?_⟩
    · rw [HUS.out, HNL.out]; exact HR6.out
    · rw [HNL.out]; exact HO6.out
    · rw [HNL.out]; exact hGO.out
    · rw [HNL.out]; exact HBYS.out
end Go.Proofs.Yteemdjamgbbjhaa.Wl

/-
  Sectors are read.
-/
namespace Go.Proofs.Yteemdjamgbbjhaa.Wl
set_option maxRecDepth 100000
open Go.RowKit Go.Shelf Go.Proofs.Yteemdjamgbbjhaa.Wd Go.Proofs.Yteemdjamgbbjhaa.Dsk Go.Proofs.Yteemdjamgbbjhaa.Oct Go.Proofs.Yteemdjamgbbjhaa.Sum

/-- sectors are read, one by one: the disk behind it, what they held, the first error -/
def rdM : List Int → DM → DM × List (List UInt8) × Int
  | [], d => (d, [], 0)
  | i :: is, d => if (d.readM i).2.2 ≠ 0 then ((d.readM i).1, [], (d.readM i).2.2) else ((rdM is (d.readM i).1).1, (d.readM i).2.1 :: (rdM is (d.readM i).1).2.1, (rdM is (d.readM i).1).2.2)
def idxs (f n : Nat) : List Int := (List.range n).map fun (i : Nat) => ((f + i : Nat) : Int)
theorem rdM_snoc (is : List Int) (i : Int) : ∀ d : DM, (rdM is d).2.2 = 0 → rdM (is ++ [i]) d = if ((rdM is d).1.readM i).2.2 ≠ 0 then (((rdM is d).1.readM i).1, (rdM is d).2.1, ((rdM is d).1.readM i).2.2) else (((rdM is d).1.readM i).1, (rdM is d).2.1 ++ [((rdM is d).1.readM i).2.1], 0) := by
  induction is with
  | nil =>
    intro d _
    show (if _ then _ else _) = _
    split <;> rename_i h
    · rw [if_pos (show ((rdM [] d).1.readM i).2.2 ≠ 0 from h)]; rfl
    · rw [if_neg (show ¬ ((rdM [] d).1.readM i).2.2 ≠ 0 from h)]; rfl
  | cons j is ih =>
    intro d h
    have h2 : ∀ rs, rdM (j :: rs) d = if (d.readM j).2.2 ≠ 0 then ((d.readM j).1, [], (d.readM j).2.2) else ((rdM rs (d.readM j).1).1, (d.readM j).2.1 :: (rdM rs (d.readM j).1).2.1, (rdM rs (d.readM j).1).2.2) := fun _ => rfl
    rw [h2] at h
    by_cases hn : (d.readM j).2.2 ≠ 0
    · rw [if_pos hn] at h; exact absurd h hn
    · rw [if_neg hn] at h
      rw [List.cons_append, h2, h2, if_neg hn, if_neg hn, ih _ h]
      simp only
      split <;> simp
theorem rdM_pre (is js : List Int) : ∀ d : DM, (rdM is d).2.2 ≠ 0 → (rdM (is ++ js) d).1 = (rdM is d).1 ∧ (rdM (is ++ js) d).2.2 = (rdM is d).2.2 := by
  induction is with
  | nil => intro d h; exact absurd rfl h
  | cons j is ih =>
    intro d h
    have h2 : ∀ rs, rdM (j :: rs) d = if (d.readM j).2.2 ≠ 0 then ((d.readM j).1, [], (d.readM j).2.2) else ((rdM rs (d.readM j).1).1, (d.readM j).2.1 :: (rdM rs (d.readM j).1).2.1, (rdM rs (d.readM j).1).2.2) := fun _ => rfl
    rw [h2] at h
    rw [List.cons_append, h2, h2]
    by_cases hn : (d.readM j).2.2 ≠ 0
    · rw [if_pos hn, if_pos hn]; exact ⟨rfl, rfl⟩
    · rw [if_neg hn] at h
      rw [if_neg hn, if_neg hn]
      exact ih _ h
theorem idxs_succ (f r : Nat) : idxs f (r + 1) = idxs f r ++ [((f + r : Nat) : Int)] := by simp [idxs, List.range_succ]
theorem idxs_split (f a b : Nat) : idxs f a ++ ((List.range b).map fun (i : Nat) => ((f + (a + i) : Nat) : Int)) = idxs f (a + b) := by
  unfold idxs
  rw [List.range_add, List.map_append, List.map_map]
  rfl
theorem readM_blk (d : DM) (i : Int) (h : Dsk.Good d) : (d.readM i).2.1.length = 64 := by
  unfold DM.readM
  split
  · rename_i hz
    refine sec_len h ?_
    have : ¬ ((d.sec.length : Int) ≤ i) ∧ ¬ i < 0 := by
      constructor <;> (intro hc; revert hz; unfold DM.pre; split; simp; simp [hc])
    have := h.pos
    omega
  · rfl
theorem Disk.good {w : World} {F : Nat → Prop} {g : Nat} {d : DM} (h : Disk w F g d) : Dsk.Good d := by
  obtain ⟨⟨_, _, _, h1⟩, _⟩ := h
  exact h1.good
theorem flat_len (L : List (List UInt8)) (h : ∀ b ∈ L, b.length = 64) : L.flatten.length = L.length * 64 := by
  induction L with
  | nil => rfl
  | cons b L ih =>
    rw [List.flatten_cons, List.length_append, h b (by simp), ih (fun c hc => h c (by simp [hc])), List.length_cons]
    omega
theorem splice_mid (A B C X : List Value) (h : B.length = X.length) : splice (A ++ B ++ C) A.length X = A ++ X ++ C := by
  simp only [splice]
  rw [← h, ← List.length_append, List.drop_left, List.append_assoc A, List.take_left, List.append_assoc]
/-- the row of blocks, one of them put in -/
theorem splice_flat (L M : List (List UInt8)) (x y : List UInt8) (hL : ∀ b ∈ L, b.length = 64) (hx : x.length = 64) (hy : y.length = 64) : splice (bv (L ++ y :: M).flatten) (L.length * 64) (bv x) = bv (L ++ x :: M).flatten := by
  have hl := flat_len L hL
  simp only [List.flatten_append, List.flatten_cons, bv_append]
  rw [← List.append_assoc, ← List.append_assoc, ← hl, ← bv_length L.flatten]
  exact splice_mid _ _ _ _ (by rw [bv_length, bv_length, hx, hy])
/-- what a read of sectors answers and leaves -/
def Rd (w w' : World) (F : Nat → Prop) (dg f n : Nat) (d : DM) (e : Ending) : Prop :=
  ∃ v F', e = .returned (.tuple #[v, .int .i64 (rdM (idxs f n) d).2.2]) ∧
      Dk w' F' dg (rdM (idxs f n) d).1 ∧ Ext F F' w w' ∧ Off F w w' ∧ ((rdM (idxs f n) d).2.2 = 0 → ∃ gs, v = .slice (some ⟨gs, 0, none⟩) n n ∧ w.heap.size ≤ gs ∧ ¬ F' gs ∧ Row w' gs 89 (bv (rdM (idxs f n) d).2.1.flatten) ∧ (rdM (idxs f n) d).2.1.length = n ∧ ∀ x ∈ (rdM (idxs f n) d).2.1, x.length = 64)
set_option maxHeartbeats 8000000 in
theorem rd_any (dg f n : Nat) (d : DM) (F : Nat → Prop) (w : World) (hd : Dk w F dg d) (hf : f ≤ 10000) (hn : n ≤ 2000) :
    Calls Try.prog 61 #[.pointer (some ⟨dg, 0, none⟩), .int .i64 (f : Int), .int .i64 (n : Int)] w fun e w' => Rd w w' F dg f n d e := by
  have HD := Lib.hid hd
  have hmk := make_blks n (by omega)
  clear hd
  go_enter Try.func61, Try.ntmps61
  go_wp2_with fail
  refine nw fun w1 hw1 => ?_
  have rs : Row w1 w.heap.size 89 (bv (List.replicate n nought).flatten) := by
    have e2 : bv nought = List.replicate 64 (.int .u8 0) := (bv_zero 64).symm
    have e3 : bv (List.replicate n nought).flatten = List.replicate (n * 64) (.int .u8 0) := by
      show bv (List.replicate n (List.replicate 64 0)).flatten = _
      rw [List.flatten_replicate_replicate, ← bv_zero]
    rw [← hw1, e2, made_rep _ _ _ (by omega), e3]
    exact Row.new w 89 _
  have hbs : Below w.heap.size w w1 := by rw [← hw1]; exact (Below.refl _ _).alloc (Nat.le_refl _) _
  have hs1 : w1.heap.size = w.heap.size + 1 := by rw [← hw1]; simp
  have hd1 : Disk w1 F dg d := HD.out.1.below hbs
  obtain ⟨gs, hgs⟩ : ∃ gs, w.heap.size = gs := ⟨_, rfl⟩
  rw [hgs] at rs ⊢
  clear hw1 hmk
  have hgF : ¬ F gs := fun h => by have := HD.out.1.2 gs h; omega
  have HGF := Lib.hid hgF
  have HBS := Lib.hid hbs
  have HGS := Lib.hid hgs
  have HS1 := Lib.hid hs1
  go_loopw [16] (fun i wr => ∃ r : Nat, r ≤ n ∧ i = .int .i64 (r : Int) ∧ Hid (Disk wr F dg (rdM (idxs f r) d).1 ∧ (rdM (idxs f r) d).2.2 = 0 ∧ (rdM (idxs f r) d).2.1.length = r ∧ (∀ x ∈ (rdM (idxs f r) d).2.1, x.length = 64) ∧ Row wr gs 89 (bv ((rdM (idxs f r) d).2.1 ++ List.replicate (n - r) nought).flatten) ∧ Off (fun k => F k ∨ k = gs) w1 wr)) (fun i _ => n - (intOf i).toNat)
  case atStart => exact ⟨0, Nat.zero_le _, rfl, hd1, rfl, rfl, (fun x hx => by cases hx), rs, Off.refl _ _⟩
  case round =>
    obtain ⟨r, hrn, rfl, HI⟩ := hrel
    clear hd1 rs hgF hbs hgs hs1
    by_cases hlt : r < n
    · have h1 : (r : Int) < (n : Int) := by omega
      have hfi : ((f + r : Nat) : Int) = (f : Int) + (r : Int) := by omega
      have HRD := Lib.hid (read_keep dg (rdM (idxs f r) d).1 F ((f + r : Nat) : Int) wr HI.out.1)
      rw [hfi] at HRD
      have hsn := rdM_snoc (idxs f r) ((f + r : Nat) : Int) d HI.out.2.1
      rw [← idxs_succ, hfi] at hsn
      obtain ⟨d', hd'⟩ : ∃ d', (rdM (idxs f r) d).1 = d' := ⟨_, rfl⟩
      rw [hd'] at HRD hsn
      have hx64 := readM_blk d' ((f : Int) + r) (hd' ▸ Disk.good HI.out.1)
      obtain ⟨x, hx⟩ : ∃ x, (d'.readM ((f : Int) + r)).2.1 = x := ⟨_, rfl⟩
      obtain ⟨er, her⟩ : ∃ er, (d'.readM ((f : Int) + r)).2.2 = er := ⟨_, rfl⟩
      obtain ⟨d2, hd2⟩ : ∃ d2, (d'.readM ((f : Int) + r)).1 = d2 := ⟨_, rfl⟩
      rw [hx, her, hd2] at hsn HRD
      rw [hx] at hx64
      have HSN := Lib.hid hsn
      have HX := Lib.hid hx64
      clear hsn hx64 hx her hd2 hd' hfi
      go_wp2_with fail
      refine (HRD.out).mono ?_
      rintro e w2 ⟨rfl, hdk, hoff⟩
      have HDK := Lib.hid hdk
      have HOF := Lib.hid hoff
      have RG2 : Hid (Row w2 gs 89 (bv ((rdM (idxs f r) d).2.1 ++ List.replicate (n - r) nought).flatten)) := Lib.hid ((hoff.block gs HI.out.2.2.2.2.1.lt HGF.out).trans HI.out.2.2.2.2.1)
      clear hdk hoff HRD
      have HIX : Hid ((Try.prog.info? 89).map (·.size) = some (bv x).length) := (show _ = _ by rw [bv_length, HX.out]; exact size39)
      have HLX : Hid ((bv x).length = (bv nought).length) := (show _ = _ by rw [bv_length, bv_length, HX.out]; rfl)
      go_wp2_with (first
        | (with_reducible refine wpList_store_whole (op := ⟨none, _, _, _, _, _⟩) ?_ 89 (.tmp 10) (.tmp 25) ?_ w2.heap.size (bv x) ?_ ?_ 89 (bv nought) ?hrow HLX.out bv_one HIX.out ?_))
      case hrow => exact Row.new w2 _ (bv nought)
      all_goals try (first | rfl | (simp; done))
      intro w3 hr3 hg3
      have hb3 : Below w2.heap.size w2 w3 := ((Below.refl _ _).alloc (Nat.le_refl _) _).grown hg3 (by simp) (fun k hk => by cases hk; exact Nat.le_refl _)
      have HR3 := Lib.hid hr3
      have HDK3 := Lib.hid (HDK.out.below hb3)
      have RG3 := Lib.hid (RG2.out.below hb3 RG2.out.lt)
      have hne3 : w2.heap.size ≠ gs := fun e => by have := RG2.out.lt; omega
      have HN3 := Lib.hid hne3
      have HO3 : Hid (Off (fun k => F k ∨ k = gs) w1 w3) := Lib.hid ⟨hb3.os.trans (HOF.out.os.trans HI.out.2.2.2.2.2.os), hb3.tape.trans (HOF.out.tape.trans HI.out.2.2.2.2.2.tape), hb3.output.trans (HOF.out.output.trans HI.out.2.2.2.2.2.output), Nat.le_trans HI.out.2.2.2.2.2.size (Nat.le_trans HOF.out.size hb3.size), fun k hk hn => (hb3.block k (Nat.lt_of_lt_of_le hk (Nat.le_trans HI.out.2.2.2.2.2.size HOF.out.size))).trans ((HOF.out.block k (Nat.lt_of_lt_of_le hk HI.out.2.2.2.2.2.size) (fun h => hn (.inl h))).trans (HI.out.2.2.2.2.2.block k hk hn))⟩
      clear hr3 hg3 hb3 hne3
      by_cases h0 : er = 0
      · subst h0
        have hsn := HSN.out
        rw [if_neg (by simp)] at hsn
        have e1 : (rdM (idxs f (r + 1)) d).1 = d2 := by rw [hsn]
        have e2 : (rdM (idxs f (r + 1)) d).2.1 = (rdM (idxs f r) d).2.1 ++ [x] := by rw [hsn]
        have e3 : (rdM (idxs f (r + 1)) d).2.2 = 0 := by rw [hsn]
        have E1 := Lib.hid e1
        have E2 := Lib.hid e2
        have E3 := Lib.hid e3
        obtain ⟨L, hL⟩ : ∃ L, (rdM (idxs f r) d).2.1 = L := ⟨_, rfl⟩
        have hrep : List.replicate (n - r) nought = nought :: List.replicate (n - (r + 1)) nought := by
          rw [show n - r = (n - (r + 1)) + 1 by omega, List.replicate_succ]
        have RL : Hid (Row w3 gs 89 (bv (L ++ nought :: List.replicate (n - (r + 1)) nought).flatten)) := by rw [← hL, ← hrep]; exact RG3.out
        have HLL : Hid (L.length = r ∧ ∀ b ∈ L, b.length = 64) := Lib.hid ⟨by rw [← hL]; exact HI.out.2.2.1, by rw [← hL]; exact HI.out.2.2.2.1⟩
        rw [hL] at E2
        have HFI : Hid (r * 64 + (bv x).length ≤ (bv (L ++ nought :: List.replicate (n - (r + 1)) nought).flatten).length) := Lib.hid (by
          rw [bv_length, bv_length, HX.out, flat_len _ (fun b hb => by
            rcases List.mem_append.1 hb with hb | hb
            · exact HLL.out.2 b hb
            · rcases List.mem_cons.1 hb with rfl | hb
              · rfl
              · rw [List.eq_of_mem_replicate hb]; rfl)]
          simp only [List.length_append, List.length_cons, HLL.out.1]
          omega)
        obtain ⟨cs, hcs⟩ : ∃ cs, bv (L ++ nought :: List.replicate (n - (r + 1)) nought).flatten = cs := ⟨_, rfl⟩
        rw [hcs] at RL HFI
        have HCS := Lib.hid hcs
        clear hsn e1 e2 e3 hrep hL RG3 hcs
        go_wp2_with (first
          | (with_reducible refine wpList_load_row (op := ⟨some 32, _, _, _, _, _⟩) ?_ 89 (.tmp 10) ?_ w2.heap.size 0 ?_ (bv x) _ (Row.all HR3.out) Try.underlying89 ?_ HIX.out ?_)
          | (with_reducible refine wpList_store_in (op := ⟨none, _, _, _, _, _⟩) ?_ 89 (.tmp 33) (.tmp 32) ?_ gs (r * 64) (bv x) ?_ ?_ 89 cs RL.out HFI.out bv_one HIX.out ?_))
        all_goals try (first | rfl | (simp; done))
        intro w4 hr4 hg4
        have hsp := splice_flat L (List.replicate (n - (r + 1)) nought) x nought HLL.out.2 HX.out rfl
        rw [HCS.out, HLL.out.1] at hsp
        rw [hsp] at hr4
        clear hsp
        have HREL : Hid (Disk w4 F dg (rdM (idxs f (r + 1)) d).1 ∧ (rdM (idxs f (r + 1)) d).2.2 = 0 ∧ (rdM (idxs f (r + 1)) d).2.1.length = r + 1 ∧ (∀ x ∈ (rdM (idxs f (r + 1)) d).2.1, x.length = 64) ∧ Row w4 gs 89 (bv ((rdM (idxs f (r + 1)) d).2.1 ++ List.replicate (n - (r + 1)) nought).flatten) ∧ Off (fun k => F k ∨ k = gs) w1 w4) := by
          rw [E1.out, E2.out]
          refine ⟨HDK3.out.off (F' := fun k => k = gs) (fun k hk e => HGF.out (e ▸ hk)) (Off.of_grown hg4 (fun k e => (Option.some.inj e).symm)), E3.out, by rw [List.length_append, HLL.out.1]; rfl, fun b hb => ?_, by rw [List.append_assoc]; exact hr4, HO3.out.grown hg4 (fun k e => .inl (.inr (Option.some.inj e).symm))⟩
          rcases List.mem_append.1 hb with hb | hb
          · exact HLL.out.2 b hb
          · rw [List.mem_singleton.1 hb]; exact HX.out
        clear hr4 hg4
        go_wp2
        exact ⟨⟨r + 1, by omega, by go_num, HREL⟩, by simp [intOf]; omega⟩
      · have hsn := HSN.out
        rw [if_pos h0] at hsn
        have hpre := rdM_pre (idxs f (r + 1)) ((List.range (n - (r + 1))).map fun (i : Nat) => ((f + (r + 1 + i) : Nat) : Int)) d (by rw [hsn]; exact h0)
        have hidx : idxs f (r + 1) ++ ((List.range (n - (r + 1))).map fun (i : Nat) => ((f + (r + 1 + i) : Nat) : Int)) = idxs f n := by
          rw [idxs_split, show r + 1 + (n - (r + 1)) = n by omega]
        rw [hidx, hsn] at hpre
        have HP1 := Lib.hid hpre.1
        have HP2 := Lib.hid hpre.2
        obtain ⟨Fm, hdm, hFm⟩ := dk_min HDK3.out
        have HDM := Lib.hid hdm
        have HFM := Lib.hid hFm
        clear hsn hpre hidx hdm hFm
        go_wp2
        exact bodyPost_ret (v := .tuple #[.slice none 0 0, .int .i64 er]) (by simp [results, Try.results61, go_sem]) rfl ⟨_, Fm, by rw [HP2.out], by rw [HP1.out]; exact HDM.out, fun k hk => .inl (HFM.out k hk), ⟨HO3.out.os.trans HBS.out.os, HO3.out.tape.trans HBS.out.tape, HO3.out.output.trans HBS.out.output, Nat.le_trans HBS.out.size HO3.out.size, fun k hk hn => (HO3.out.block k (by have := HS1.out; omega) (fun h => h.elim hn (fun e => by have := HGS.out; omega))).trans (HBS.out.block k hk)⟩, fun h => absurd (HP2.out.symm.trans h) h0⟩
    · have h1 : ¬ (r : Int) < (n : Int) := by omega
      obtain rfl : r = n := by omega
      obtain ⟨q1, q2, q3, q4, q5, q6⟩ := HI.out
      rw [Nat.sub_self, List.replicate_zero, List.append_nil] at q5
      obtain ⟨Fm, hdm, hFm⟩ := dk_min q1
      have HDM := Lib.hid hdm
      have HFM := Lib.hid hFm
      have Q2 := Lib.hid q2
      have Q3 := Lib.hid q3
      have Q4 := Lib.hid q4
      have Q5 := Lib.hid q5
      have HO3 := Lib.hid q6
      clear q1 q2 q3 q4 q5 q6 hdm hFm
      go_wp2
      exact bodyPost_ret (v := .tuple #[.slice (some ⟨gs, 0, none⟩) r r, .int .i64 0]) (by simp [results, Try.results61, go_sem]) rfl ⟨_, Fm, by rw [Q2.out], HDM.out, fun k hk => .inl (HFM.out k hk), ⟨HO3.out.os.trans HBS.out.os, HO3.out.tape.trans HBS.out.tape, HO3.out.output.trans HBS.out.output, Nat.le_trans HBS.out.size HO3.out.size, fun k hk hn => (HO3.out.block k (by have := HS1.out; omega) (fun h => h.elim hn (fun e => by have := HGS.out; omega))).trans (HBS.out.block k hk)⟩, fun _ => ⟨gs, rfl, Nat.le_of_eq HGS.out, fun h => HGF.out (HFM.out gs h), Q5.out, Q3.out, Q4.out⟩⟩
end Go.Proofs.Yteemdjamgbbjhaa.Wl

/-
  A head in a sector.
-/
namespace Go.Proofs.Yteemdjamgbbjhaa.Wl
set_option maxRecDepth 100000
open Go.RowKit Go.Shelf Go.Proofs.Yteemdjamgbbjhaa.Wd Go.Proofs.Yteemdjamgbbjhaa.Dsk Go.Proofs.Yteemdjamgbbjhaa.Oct Go.Proofs.Yteemdjamgbbjhaa.Sum

def headT (s : List UInt8) : Nat := num ((s.drop 8).take 4)
def headA (s : List UInt8) : Nat := num ((s.drop 12).take 4)
theorem num4_lt (l : List UInt8) : num (l.take 4) < 4294967296 := by
  have h1 := num_lt (l.take 4)
  have h2 : (l.take 4).length ≤ 4 := by rw [List.length_take]; omega
  have h3 : 256 ^ (l.take 4).length ≤ 256 ^ 4 := Nat.pow_le_pow_right (by omega) h2
  omega
theorem fits_any (t a n : Nat) (w : World) (ht : t < 4294967296) (ha : a < 4294967296) (hn : n ≤ 100000) :
    Calls Try.prog 82 #[.agg (hcs t a).toArray, .int .i64 (n : Int)] w fun e w' => e = .returned (.bool (decide (4 ≤ a ∧ a ≤ 1000 ∧ 2 + 2 * a ≤ n))) ∧ Below w.heap.size w w' := by
  have k1 : (hcs t a)[1]? = some (.int .u32 (a : Int)) := rfl
  by_cases h4 : 4 ≤ a
  · by_cases h1 : a ≤ 1000
    · have g1 : (4 : Int) ≤ (a : Int) := by omega
      have g2 : (a : Int) ≤ 1000 := by omega
      have HN := Lib.hid fun u => needed_any a u h1
      go_enter Try.func82, Try.ntmps82
      go_wp2_with fail
      refine (HN.out _).mono ?_
      rintro e w2 ⟨rfl, hx⟩
      subst hx
      go_wp2
      go_ret
      exact ⟨ret_bool (by simp only [decide_eq_decide]; omega), (Below.refl _ _).alloc (Nat.le_refl _) _⟩
    · have g1 : (4 : Int) ≤ (a : Int) := by omega
      have g2 : ¬ (a : Int) ≤ 1000 := by omega
      go_enter Try.func82, Try.ntmps82
      go_wp2
      go_ret
      exact ⟨rfl, (Below.refl _ _).alloc (Nat.le_refl _) _⟩
  · have g1 : ¬ (4 : Int) ≤ (a : Int) := by omega
    go_enter Try.func82, Try.ntmps82
    go_wp2
    go_ret
    exact ⟨rfl, (Below.refl _ _).alloc (Nat.le_refl _) _⟩
set_option maxHeartbeats 4000000 in
theorem headIn_any (s : List UInt8) (w : World) (hs : s.length = 64) :
    Calls Try.prog 81 #[.agg (bv s).toArray] w fun e w' => e = .returned (.tuple #[.agg (hcs (headT s) (headA s)).toArray, .bool (decide (headB (headT s) (headA s) = s))]) ∧ Below w.heap.size w w' := by
  have mixed : Try.prog.follows .mixedOrders = true := by kernel_rfl
  have HL := Lib.hid hs
  clear hs
  go_enter Try.func81, Try.ntmps81
  go_wp2_with fail
  refine (fun (h : ∀ w1, (w.alloc (.cells (bv s).toArray 89)).alloc (.cells #[.int .u32 0, .int .u32 0] 106) = w1 → Calls _ _ _ w1 _) => h _ rfl) fun w1 hw1 => ?_
  have hb1 : Below w.heap.size w w1 := by rw [← hw1]; exact ((Below.refl _ _).alloc (Nat.le_refl _) _).alloc (by simp) _
  have r1 : Row w1 w.heap.size 89 (bv s) := by rw [← hw1]; exact (Row.new w _ _).alloc _
  have r2 : Row w1 (w.heap.size + 1) 106 [.int .u32 0, .int .u32 0] := by
    rw [← hw1]
    have := Row.new (w.alloc (.cells (bv s).toArray 89)) 106 [.int .u32 0, .int .u32 0]
    rw [World.size_alloc] at this
    exact this
  have hbs : Bs w1 w1.heap.size (some ⟨w.heap.size, 8, none⟩) ((s.drop 8).take 56) := (Row.bs r1 r1.lt).cut 8 56 (by rw [HL.out]; omega)
  have R1 := Lib.hid r1
  have R2 := Lib.hid r2
  have HB1 := Lib.hid hb1
  clear hw1 hb1 r1 r2
  obtain ⟨l, hl⟩ : ∃ l, (s.drop 8).take 56 = l := ⟨_, rfl⟩
  have hll : l.length = 56 := by rw [← hl, List.length_take, List.length_drop, HL.out]; rfl
  have hT : num (Oct.step l 0 0 4).1 = headT s := by
    unfold Oct.step headT
    rw [if_neg (by simp), if_neg (by omega), if_neg (by omega), ← hl]
    simp [List.take_take]
  have hst : Oct.step l 0 0 4 = (l.take 4, 4, 0) := by
    unfold Oct.step
    rw [if_neg (by simp), if_neg (by omega), if_neg (by omega)]
    simp
  have hA : num (Oct.step l 4 0 4).1 = headA s := by
    unfold Oct.step headA
    rw [if_neg (by simp), if_neg (by omega), if_neg (by omega), ← hl]
    simp [List.drop_take, List.drop_drop, List.take_take]
  rw [hl] at hbs
  have HT := Lib.hid hT
  have HA := Lib.hid hA
  have HST := Lib.hid hst
  have HLL := Lib.hid hll
  clear hl hT hA hst hll
  refine (Oct.read_any (some ⟨w.heap.size, 8, none⟩) l 56 56 w1 HLL.out (by omega) _ hbs (fun e => by cases e)).mono ?_
  rintro e w2 ⟨g2, rfl, hg2, hrd, hb2⟩
  have R12 := Lib.hid (R1.out.below hb2 R1.out.lt)
  have R22 := Lib.hid (R2.out.below hb2 R2.out.lt)
  have HB2 := Lib.hid (HB1.out.trans (hb2.mono HB1.out.size))
  have HG2 : Hid (w.heap.size + 1 < g2 ∧ w.heap.size < g2) := Lib.hid ⟨Nat.lt_of_lt_of_le R2.out.lt hg2, Nat.lt_of_lt_of_le R1.out.lt hg2⟩
  have HRD := Lib.hid hrd
  clear hb2 hg2 hrd hbs
  go_wp2_with fail
  refine (u32_any g2 l 0 0 w2 HRD.out).mono ?_
  rintro e w3 ⟨rfl, hrd, hg3⟩
  rw [HT.out]
  rw [HST.out] at hrd
  have R13 := Lib.hid (R12.out.grown hg3 (fun e => by have := HG2.out.2; have := Option.some.inj e; omega))
  have R23 := Lib.hid (R22.out.grown hg3 (fun e => by have := HG2.out.1; have := Option.some.inj e; omega))
  have HB3 := Lib.hid (HB2.out.grown hg3 HB2.out.size (fun j hj => by have := HG2.out.2; have := Option.some.inj hj; omega))
  have HRD3 := Lib.hid hrd
  clear hg3 hrd
  go_wp2_with fail
  refine (u32_any g2 l 4 0 w3 HRD3.out).mono ?_
  rintro e w4 ⟨rfl, _, hg4⟩
  rw [HA.out]
  have R14 := Lib.hid (R13.out.grown hg4 (fun e => by have := HG2.out.2; have := Option.some.inj e; omega))
  have R24 := Lib.hid (R23.out.grown hg4 (fun e => by have := HG2.out.1; have := Option.some.inj e; omega))
  have HB4 := Lib.hid (HB3.out.grown hg4 HB3.out.size (fun j hj => by have := HG2.out.2; have := Option.some.inj hj; omega))
  clear hg4
  have ht : headT s < 4294967296 := num4_lt _
  have ha : headA s < 4294967296 := num4_lt _
  obtain ⟨t, hte⟩ : ∃ t, headT s = t := ⟨_, rfl⟩
  obtain ⟨a, hae⟩ : ∃ a, headA s = a := ⟨_, rfl⟩
  rw [hte] at ht ⊢
  rw [hae] at ha ⊢
  clear HT HA HST
  have HLH := Lib.hid (show (hcs t a).length = ([.int .u32 0, .int .u32 0] : List Value).length from rfl)
  have HIH := Lib.hid (show (Try.prog.info? 106).map (·.size) = some (hcs t a).length from size106)
  have HIB : Hid ((Try.prog.info? 89).map (·.size) = some (bv s).length) := (show _ = _ by rw [bv_length, HL.out]; exact size39)
  go_wp2_with (first
    | (with_reducible refine wpList_store_whole (op := ⟨none, _, _, _, _, _⟩) ?_ 106 (.tmp 5) (.tmp 12) ?_ w4.heap.size (hcs t a) ?_ ?_ 106 [.int .u32 0, .int .u32 0] ?hrow HLH.out (hcs_one _ _) HIH.out ?_))
  case hrow => exact Row.new w4 _ [.int .u32 0, .int .u32 0]
  all_goals try (first | rfl | (simp; done))
  intro w5 hr5 hg5
  have hb5 : Below w4.heap.size w4 w5 := ((Below.refl _ _).alloc (Nat.le_refl _) _).grown hg5 (by simp) (fun k hk => by cases hk; exact Nat.le_refl _)
  obtain ⟨b5, hb5e⟩ : ∃ b5, w4.heap.size = b5 := ⟨_, rfl⟩
  rw [hb5e] at hr5
  have R55 := Lib.hid hr5
  have HB5E : Hid (w.heap.size + 1 < b5) := Lib.hid (by rw [← hb5e]; exact R24.out.lt)
  have R15 := Lib.hid (R14.out.below hb5 R14.out.lt)
  have R25 := Lib.hid (R24.out.below hb5 R24.out.lt)
  have HB5 := Lib.hid (HB4.out.trans (hb5.mono HB4.out.size))
  clear hr5 hg5 hb5
  go_wp2_with fail
  rw [hb5e]
  clear hb5e
  refine wp_region_held_drew (S := (fun w' => Row w' b5 106 (hcs t a) ∧ Row w' w.heap.size 89 (bv s))) (by kernel_rfl) ⟨R55.out, R15.out⟩ (fun hHeld => ?_)
  refine wpAnyH_take (i := 0) (oi := ⟨some 13, _, _, _, _, _⟩) rfl (by kernel_rfl) (by kernel_rfl) (by kernel_rfl) (fun _ _ _ h => h) (yieldsIf_load_mid (by rfl) 106 (.tmp 5) rfl b5 0 ?x0 (hcs t a) _ (fun _ hS => Row.all hS.1) Try.underlying106 rfl HIH.out) hHeld ?r0
  case x0 => first | rfl | (simp [Act.eval, go_sem]; done)
  try simp only [Act.put, List.setIfInBounds_toArray, List.set_cons_zero, List.set_cons_succ]
  refine wpAnyH_take (i := 1) (oi := ⟨some 14, _, _, _, _, _⟩) rfl (by kernel_rfl) (by kernel_rfl) (by kernel_rfl) (fun _ _ _ h => h) (yieldsIf_load_mid (by rfl) 106 (.tmp 5) rfl b5 0 ?x1 (hcs t a) _ (fun _ hS => Row.all hS.1) Try.underlying106 rfl HIH.out) hHeld ?r1
  case x1 => first | rfl | (simp [Act.eval, go_sem]; done)
  try simp only [Act.put, List.setIfInBounds_toArray, List.set_cons_zero, List.set_cons_succ]
  refine wpAnyH_take (i := 3) (oi := ⟨some 16, _, _, _, _, _⟩) rfl (by kernel_rfl) (by kernel_rfl) (by kernel_rfl) (fun _ _ _ h => h) (yieldsIf_load_mid (by rfl) 89 (.tmp 1) rfl w.heap.size 0 ?x3 (bv s) _ (fun _ hS => Row.all hS.2) Try.underlying89 rfl HIB.out) hHeld ?r3
  case x3 => first | rfl | (simp [Act.eval, go_sem]; done)
  try simp only [Act.put, List.setIfInBounds_toArray, List.set_cons_zero, List.set_cons_succ]
  refine wpAnyH_ready (rs := [2]) (by kernel_rfl) (by simp) ?_
  refine AllReadyH.cons rfl (fun K hK => ?_) AllReadyH.nil
  go_simp
  refine (sector_any t a w5.drew ht ha).mono ?_
  rintro e w6 ⟨rfl, hb6⟩
  replace hb6 : Below w5.heap.size w5 w6 := undrew hb6
  have R56 := Lib.hid (R55.out.below hb6 R55.out.lt)
  have R16 := Lib.hid (R15.out.below hb6 R15.out.lt)
  have R26 := Lib.hid (R25.out.below hb6 R25.out.lt)
  have HB6 := Lib.hid (HB5.out.trans (hb6.mono HB5.out.size))
  clear hb6
  refine hK _ _ ⟨R56.out, R16.out⟩ (fun _ => ?_)
  clear hK K
  try simp only [Act.put, List.setIfInBounds_toArray, List.set_cons_zero, List.set_cons_succ]
  refine wpAnyH_take (i := 4) (oi := ⟨some 17, _, _, _, _, _⟩) (v := ?v4) rfl (by kernel_rfl) (by kernel_rfl) (by kernel_rfl) (fun _ _ _ h => h) (Or.inl ⟨by rfl, ?y4⟩) ⟨R56.out, R16.out⟩ ?r4
  case y4 =>
    rintro w' ⟨_, _⟩
    have hq := run_equal_blk w' (headB t a) s (headB_len _ _) HL.out
    unfold blk at hq ⊢
    go_simp
    try with_reducible rfl
  try simp only [Act.put, List.setIfInBounds_toArray, List.set_cons_zero, List.set_cons_succ]
  refine wpAnyH_ready (rs := [5]) (by kernel_rfl) (by simp) ?_
  refine AllReadyH.cons rfl (fun K hK => ?_) AllReadyH.nil
  rw [if_pos (by rfl)]
  refine wp_store_whole 106 (.tmp 2) (.tmp 13) rfl (w.heap.size + 1) (hcs t a) rfl rfl 106 [.int .u32 0, .int .u32 0] R26.out HLH.out (hcs_one _ _) HIH.out ?_
  intro w7 hr7 hg7
  have hne1 : b5 ≠ w.heap.size + 1 := fun e => by have h1 := R56.out; have h2 := HB5E.out; omega
  have R57 := Lib.hid (R56.out.grown hg7 (fun e => hne1 (Option.some.inj e)))
  have R17 := Lib.hid (R16.out.grown hg7 (fun e => by have := Option.some.inj e; omega))
  have HB7 := Lib.hid (HB6.out.grown hg7 HB6.out.size (fun j hj => by have := Option.some.inj hj; omega))
  have HRES := Lib.hid (run_loadVar_mid (P := Try.prog) w7 (w.heap.size + 1) 0 106 (hcs t a) _ (Row.all hr7) Try.underlying106 rfl HIH.out)
  clear hr7 hg7 hne1
  refine hK _ _ ⟨R57.out, R17.out⟩ (fun _ => ?_)
  clear hK K
  try simp only [Act.put, List.setIfInBounds_toArray, List.set_cons_zero, List.set_cons_succ]
  refine wpAnyH_take (i := 6) (oi := ⟨some 3, _, _, _, _, _⟩) (v := ?v6) rfl (by kernel_rfl) (by kernel_rfl) (by kernel_rfl) (fun _ _ _ h => h) (Or.inl ⟨by rfl, ?y6⟩) ⟨R57.out, R17.out⟩ ?r6
  case y6 =>
    rintro w' ⟨_, _⟩
    go_simp
    try with_reducible rfl
  try simp only [Act.put, List.setIfInBounds_toArray, List.set_cons_zero, List.set_cons_succ]
  refine wpAnyH_done (by kernel_rfl) ?_ _
  go_wp2
  exact bodyPost_ret (v := .tuple #[.agg (hcs t a).toArray, .bool (decide (headB t a = s))]) (Dsk.results_cell_tmp (p := 2) (q := 3) (ty := 106) rfl _ _ ⟨w.heap.size + 1, 0, none⟩ _ _ rfl HRES.out rfl) rfl ⟨rfl, HB7.out⟩
end Go.Proofs.Yteemdjamgbbjhaa.Wl

/-
  The head that counts.
-/
namespace Go.Proofs.Yteemdjamgbbjhaa.Wl
set_option maxRecDepth 100000
open Go.RowKit Go.Shelf Go.Proofs.Yteemdjamgbbjhaa.Wd Go.Proofs.Yteemdjamgbbjhaa.Dsk Go.Proofs.Yteemdjamgbbjhaa.Oct Go.Proofs.Yteemdjamgbbjhaa.Sum

/-- is the head in a sector right? -/
def rightH (s : List UInt8) (i n : Nat) : Bool := decide (headB (headT s) (headA s) = s) && (decide (headT s % 2 = i) && decide (4 ≤ headA s ∧ headA s ≤ 1000 ∧ 2 + 2 * headA s ≤ n))
/-- one sector more is looked at -/
def stepH (s : List UInt8) (i n : Nat) (m : Option (Nat × Nat)) : Option (Nat × Nat) :=
  if rightH s i n = true ∧ (m = none ∨ (m.getD (0, 0)).1 < headT s) then some (headT s, headA s) else m
def headsH (L : List (List UInt8)) (n : Nat) : Nat → Option (Nat × Nat)
  | 0 => none
  | k + 1 => stepH (L.getD k nought) k n (headsH L n k)
def mostV (m : Option (Nat × Nat)) : List Value := hcs (m.getD (0, 0)).1 (m.getD (0, 0)).2
theorem head_lt (L : List (List UInt8)) (n k : Nat) : ((headsH L n k).getD (0, 0)).1 < 4294967296 ∧ ((headsH L n k).getD (0, 0)).2 < 4294967296 := by
  induction k with
  | zero => exact ⟨by simp [headsH], by simp [headsH]⟩
  | succ k ih =>
    simp only [headsH, stepH]
    split
    · exact ⟨num4_lt _, num4_lt _⟩
    · exact ih
/-- what the head that counts is answered as -/
def headsOut (L : List (List UInt8)) (n : Nat) : Value := match headsH L n 2 with
  | some m => .tuple #[.agg (hcs m.1 m.2).toArray, .int .i64 0]
  | none => .tuple #[.agg (hcs 0 0).toArray, .int .i64 140]
def Hd (w w' : World) (F : Nat → Prop) (dg : Nat) (d : DM) (e : Ending) : Prop :=
  ∃ F', Dk w' F' dg (rdM (idxs 0 2) d).1 ∧ Ext F F' w w' ∧ Off F w w' ∧
    e = .returned (if (rdM (idxs 0 2) d).2.2 = 0 then headsOut (rdM (idxs 0 2) d).2.1 d.sec.length else .tuple #[.agg (hcs 0 0).toArray, .int .i64 (rdM (idxs 0 2) d).2.2])
theorem rdM_sec (is : List Int) : ∀ d : DM, (rdM is d).1.sec = d.sec := by
  have h1 : ∀ (d : DM) (i : Int), (d.readM i).1.sec = d.sec := fun d i => by
    unfold DM.readM
    split
    · exact pre_sec d i false
    · exact pre_sec d i false
  induction is with
  | nil => intro d; rfl
  | cons j is ih =>
    intro d
    show (if _ then _ else _ : DM × List (List UInt8) × Int).1.sec = _
    split
    · exact h1 d j
    · exact (ih _).trans (h1 d j)
set_option maxHeartbeats 8000000 in
theorem heads_any (dg : Nat) (d : DM) (F : Nat → Prop) (w : World) (hd : Dk w F dg d) :
    Calls Try.prog 60 #[.pointer (some ⟨dg, 0, none⟩)] w (fun e w' => Hd w w' F dg d e) := by
  have mixed : Try.prog.follows .mixedOrders = true := by kernel_rfl
  have HD := Lib.hid hd
  clear hd
  go_enter Try.func60, Try.ntmps60
  go_wp2_with fail
  have hb1 : Below w.heap.size w (w.alloc (.cells #[.int .u32 0, .int .u32 0] 106)) := (Below.refl _ _).alloc (Nat.le_refl _) _
  have r1 : Row (w.alloc (.cells #[.int .u32 0, .int .u32 0] 106)) w.heap.size 106 [.int .u32 0, .int .u32 0] := Row.new w _ _
  generalize w.alloc (.cells #[.int .u32 0, .int .u32 0] 106) = w1 at hb1 r1 ⊢
  refine (rd_any dg 0 2 d F w1 (HD.out.below hb1) (by omega) (by omega)).mono ?_
  rintro e w2 ⟨v, F2, rfl, hd2, hx2, ho2, hok⟩
  have hn1 : ¬ F w.heap.size := fun h => by have := HD.out.1.2 _ h; omega
  have R2 : Hid (Row w2 w.heap.size 106 [.int .u32 0, .int .u32 0]) := ((ho2.block _ r1.lt hn1).trans r1)
  have HO2 : Hid (Off F w w2) := Lib.hid ((Off.of_below hb1).trans (Ext.refl _ _ _) ho2)
  have HX2 : Hid (Ext F F2 w w2) := Lib.hid fun k hk => by
    rcases hx2 k hk with h | h
    · exact .inl h
    · exact .inr ⟨Nat.le_trans hb1.size h.1, h.2⟩
  have HD2 := Lib.hid hd2
  have HOK := Lib.hid hok
  have HS1 := Lib.hid hb1.size
  have HL1 := Lib.hid r1.lt
  have hsec := rdM_sec (idxs 0 2) d
  obtain ⟨d2, hd2e⟩ : ∃ d2, (rdM (idxs 0 2) d).1 = d2 := ⟨_, rfl⟩
  obtain ⟨L, hL⟩ : ∃ L, (rdM (idxs 0 2) d).2.1 = L := ⟨_, rfl⟩
  obtain ⟨er, her⟩ : ∃ er, (rdM (idxs 0 2) d).2.2 = er := ⟨_, rfl⟩
  rw [hd2e] at HD2 hsec
  rw [hL, her] at HOK
  rw [her]
  have HE := Lib.hid (show rdM (idxs 0 2) d = (d2, L, er) by rw [← hd2e, ← hL, ← her])
  have HSEC := Lib.hid hsec
  clear hd2 hx2 ho2 hok hb1 r1 hn1 hd2e hL her hsec
  by_cases h0 : er = 0
  · subst h0
    obtain ⟨gs, rfl, hgs, hgF, hrow, hLl, hL64⟩ := HOK.out rfl
    have HR := Lib.hid hrow
    have HL := Lib.hid hLl
    have HL64 := Lib.hid hL64
    have HGF := Lib.hid hgF
    have HGS := Lib.hid hgs
    clear HOK hrow hLl hL64 hgF hgs
    go_wp2_with fail
    refine nw fun w3 hw3 => ?_
    have hb3 : Below w2.heap.size w2 w3 := by rw [← hw3]; exact (Below.refl _ _).alloc (Nat.le_refl _) _
    have r73 : Row w3 w2.heap.size 106 (mostV none) := by rw [← hw3]; exact Row.new w2 _ _
    clear hw3
    obtain ⟨b7, hb7⟩ : ∃ b7, w2.heap.size = b7 := ⟨_, rfl⟩
    have hb7w : w.heap.size < b7 := by rw [← hb7]; exact R2.out.lt
    rw [hb7] at r73 ⊢
    obtain ⟨n, hn⟩ : ∃ n, d.sec.length = n := ⟨_, rfl⟩
    have hn2 : n ≤ 100000 := by rw [← hn]; have := (Disk.good HD.out.1).most; omega
    have HNN := Lib.hid hn
    have HB7 := Lib.hid hb7w
    have hI0 : Row w3 b7 106 (mostV (headsH L n 0)) ∧ Row w3 w.heap.size 106 [.int .u32 0, .int .u32 0] ∧ Row w3 gs 89 (bv L.flatten) ∧ Dk w3 F2 dg d2 ∧ Off F w w3 := ⟨r73, R2.out.below hb3 R2.out.lt, HR.out.below hb3 HR.out.lt, HD2.out.below hb3, HO2.out.grown (below_grown hb3) (by intro r e; cases e)⟩
    clear r73 hb3 hb7 hb7w hn
    go_loopw [6, 24] (fun fnd i wr => ∃ k : Nat, k ≤ 2 ∧ i = .int .i64 (k : Int) ∧ fnd = .bool (headsH L n k).isSome ∧ Hid (Row wr b7 106 (mostV (headsH L n k)) ∧ Row wr w.heap.size 106 [.int .u32 0, .int .u32 0] ∧ Row wr gs 89 (bv L.flatten) ∧ Dk wr F2 dg d2 ∧ Off F w wr)) (fun _ i _ => 2 - (intOf i).toNat)
    case atStart => exact ⟨0, by omega, rfl, rfl, hI0⟩
    case round =>
      obtain ⟨k, hk, rfl, rfl, HI⟩ := hrel
      clear hI0
      by_cases hlt : k < 2
      · have h1 : (k : Int) < 2 := by omega
        obtain ⟨x, hx⟩ : ∃ x, L.getD k nought = x := ⟨_, rfl⟩
        have hx64 : x.length = 64 := by
          rw [← hx, List.getD_eq_getElem?_getD, List.getElem?_eq_getElem (by rw [HL.out]; exact hlt)]
          exact HL64.out _ (List.getElem_mem _)
        have hflat : ∀ wz : World, Row wz gs 89 (bv L.flatten) → wz.rangeAt gs (k * 64) (bv x) := fun wz hz => by
          refine Row.range hz fun j v hj => ?_
          have hj2 : j < 64 := by simpa [bv_length, hx64] using (List.getElem?_eq_some_iff.1 hj).1
          have hsp : L = L.take k ++ x :: L.drop (k + 1) := by
            rw [← hx, List.getD_eq_getElem?_getD, List.getElem?_eq_getElem (by rw [HL.out]; exact hlt)]
            simp
          have hfl : (L.take k).flatten.length = k * 64 := by
            rw [flat_len _ (fun b hb => HL64.out b (List.mem_of_mem_take hb)), List.length_take, HL.out, Nat.min_eq_left (by omega)]
          rw [hsp, List.flatten_append, List.flatten_cons, bv_append, bv_append, List.getElem?_append_right (by rw [bv_length, hfl]; omega), bv_length, hfl, Nat.add_sub_cancel_left, List.getElem?_append_left (by rw [bv_length, hx64]; exact hj2)]
          exact hj
        have HFL := Lib.hid (hflat wr HI.out.2.2.1)
        have HX64 := Lib.hid hx64
        have HXE := Lib.hid hx
        have HIX : Hid ((Try.prog.info? 89).map (·.size) = some (bv x).length) := (show _ = _ by rw [bv_length, hx64]; exact size39)
        have HLX : Hid ((bv x).length = (bv nought).length) := (show _ = _ by rw [bv_length, bv_length, hx64]; rfl)
        clear hflat hx64 hx
        go_wp2_with (first
          | (with_reducible refine wpList_load_row (op := ⟨some 28, _, _, _, _, _⟩) ?_ 89 (.tmp 27) ?_ gs (k * 64) ?_ (bv x) _ HFL.out Try.underlying89 ?_ HIX.out ?_)
          | (with_reducible refine wpList_store_whole (op := ⟨none, _, _, _, _, _⟩) ?_ 89 (.tmp 9) (.tmp 28) ?_ wr.heap.size (bv x) ?_ ?_ 89 (bv nought) ?hrow2 HLX.out bv_one HIX.out ?_))
        case hrow2 => exact Row.new wr _ (bv nought)
        all_goals try (first | rfl | (simp; done))
        intro w4 hr4 hg4
        have hb4 : Below wr.heap.size wr w4 := ((Below.refl _ _).alloc (Nat.le_refl _) _).grown hg4 (by simp) (fun k hk => by cases hk; exact Nat.le_refl _)
        have HR4 := Lib.hid hr4
        have HB4 := Lib.hid hb4
        clear hr4 hg4 hb4
        go_wp2_with (first
          | (with_reducible refine wpList_load_row (op := ⟨some 30, _, _, _, _, _⟩) ?_ 89 (.tmp 9) ?_ wr.heap.size 0 ?_ (bv x) _ (Row.all HR4.out) Try.underlying89 ?_ HIX.out ?_))
        all_goals try (first | rfl | (simp; done))
        go_wp2_with fail
        refine (headIn_any x w4 HX64.out).mono ?_
        rintro e w5 ⟨rfl, hb5⟩
        have hT := num4_lt (x.drop 8)
        have hA := num4_lt (x.drop 12)
        have HB5 := Lib.hid (HB4.out.trans (hb5.mono HB4.out.size))
        obtain ⟨T, hTe⟩ : ∃ T, headT x = T := ⟨_, rfl⟩
        obtain ⟨A, hAe⟩ : ∃ A, headA x = A := ⟨_, rfl⟩
        have hT2 : T < 4294967296 := by rw [← hTe]; exact hT
        have hA2 : A < 4294967296 := by rw [← hAe]; exact hA
        rw [hTe, hAe]
        obtain ⟨ok, hoke⟩ : ∃ ok, decide (headB T A = x) = ok := ⟨_, rfl⟩
        rw [hoke]
        have HOKE : Hid (decide (headB (headT x) (headA x) = x) = ok) := Lib.hid (by rw [hTe, hAe]; exact hoke)
        have HTE := Lib.hid hTe
        have HAE := Lib.hid hAe
        clear hb5 hT hA hTe hAe hoke
        have HLH := Lib.hid (show (hcs T A).length = ([.int .u32 0, .int .u32 0] : List Value).length from rfl)
        have HIH := Lib.hid (show (Try.prog.info? 106).map (·.size) = some (hcs T A).length from size106)
        go_wp2_with (first
          | (with_reducible refine wpList_store_whole (op := ⟨none, _, _, _, _, _⟩) ?_ 106 (.tmp 10) (.tmp 32) ?_ w5.heap.size (hcs T A) ?_ ?_ 106 [.int .u32 0, .int .u32 0] ?hrow3 HLH.out (hcs_one _ _) HIH.out ?_))
        case hrow3 => exact Row.new w5 _ [.int .u32 0, .int .u32 0]
        all_goals try (first | rfl | (simp; done))
        intro w6 hr6 hg6
        have hb6 : Below w5.heap.size w5 w6 := ((Below.refl _ _).alloc (Nat.le_refl _) _).grown hg6 (by simp) (fun k hk => by cases hk; exact Nat.le_refl _)
        obtain ⟨b10, hb10⟩ : ∃ b10, w5.heap.size = b10 := ⟨_, rfl⟩
        have HB10 : Hid (wr.heap.size ≤ b10) := Lib.hid (by rw [← hb10]; exact HB5.out.size)
        rw [hb10] at hr6
        have R106 := Lib.hid hr6
        have HB6 := Lib.hid (HB5.out.trans (hb6.mono HB5.out.size))
        clear hr6 hg6 hb6
        go_wp2_with fail
        rw [hb10]
        clear hb10
        rename_i K10 hK10
        have HK10 := Lib.hid hK10
        clear hK10
        have fin : ∀ (rt : Bool) (W : World) (v34 v35 v36 v37 v38 v39 v40 v41 v42 v43 v44 v45 v46 : Value), rt = rightH x k n → Below wr.heap.size wr W → Row W b10 106 (hcs T A) → K10 { tmps := #[.pointer (some ⟨dg, 0, none⟩), undef, .pointer (some ⟨w.heap.size, 0, none⟩), .int .i64 0, .slice (some ⟨gs, 0, none⟩) 2 2, .int .i64 0, .bool (headsH L n k).isSome, .pointer (some ⟨b7, 0, none⟩), .int .i64 (k : Int), .pointer (some ⟨wr.heap.size, 0, none⟩), .pointer (some ⟨b10, 0, none⟩), .bool ok, .bool rt, .tuple #[.slice (some ⟨gs, 0, none⟩) 2 2, .int .i64 0], .pointer (some ⟨dg, 0, none⟩), .tuple #[.slice (some ⟨gs, 0, none⟩) 2 2, .int .i64 0], .slice (some ⟨gs, 0, none⟩) 2 2, .int .i64 0, .int .i64 0, .bool false, undef, undef, .slice (some ⟨gs, 0, none⟩) 2 2, .int .i64 2, .int .i64 (k : Int), .bool true, .int .i64 (k : Int), .pointer (some ⟨gs, k * 64, none⟩), .agg (bv x).toArray, .tuple #[.agg (hcs T A).toArray, .bool ok], .agg (bv x).toArray, .tuple #[.agg (hcs T A).toArray, .bool ok], .agg (hcs T A).toArray, .bool ok, v34, v35, v36, v37, v38, v39, v40, v41, v42, v43, v44, v45, v46, u47, u48, u49, u50, u51, u52, u53, u54, u55, u56, u57, u58, u59, u60, undef, undef, undef, undef], defers := [] } W := by
          intro rt W v34 v35 v36 v37 v38 v39 v40 v41 v42 v43 v44 v45 v46 hrt hbw hrw
          have RW := Lib.hid hrw
          have RB7 := Lib.hid (HI.out.1.below hbw HI.out.1.lt)
          have RRES := Lib.hid (HI.out.2.1.below hbw HI.out.2.1.lt)
          have RGS := Lib.hid (HI.out.2.2.1.below hbw HI.out.2.2.1.lt)
          have RDK := Lib.hid (HI.out.2.2.2.1.below hbw)
          have ROF := Lib.hid (HI.out.2.2.2.2.grown (below_grown hbw) (by intro r e; cases e))
          have HNE : Hid (b7 < b10) := Lib.hid (Nat.lt_of_lt_of_le HI.out.1.lt HB10.out)
          have hnx : headsH L n (k + 1) = stepH x k n (headsH L n k) := by rw [headsH, HXE.out]
          have e10 : W.cell? ⟨b10, 0, none⟩ = some (.int .u32 (T : Int)) := hrw.cell 0
          have e7 : W.cell? ⟨b7, 0, none⟩ = some (.int .u32 (((headsH L n k).getD (0, 0)).1 : Int)) := RB7.out.cell 0
          clear hbw hrw
          refine HK10.out _ _ ?_
          cases rt with
          | false =>
            have hs : stepH x k n (headsH L n k) = headsH L n k := by
              unfold stepH
              rw [if_neg (by rw [← hrt]; simp)]
            rw [hs] at hnx
            have HREL : Hid (Row W b7 106 (mostV (headsH L n (k + 1))) ∧ Row W w.heap.size 106 [.int .u32 0, .int .u32 0] ∧ Row W gs 89 (bv L.flatten) ∧ Dk W F2 dg d2 ∧ Off F w W) := Lib.hid ⟨by rw [hnx]; exact RB7.out, RRES.out, RGS.out, RDK.out, ROF.out⟩
            have HNX := Lib.hid hnx
            clear hnx hs e10 e7 hrt
            go_wp2
            go_roundw
            case rel => exact ⟨k + 1, by omega, by go_num, by rw [HNX.out], HREL⟩
            case measure => simp [intOf]; omega
          | true =>
            cases hm : headsH L n k with
            | none =>
              have hs : stepH x k n (headsH L n k) = some (T, A) := by
                unfold stepH
                rw [if_pos ⟨hrt.symm, .inl hm⟩, HTE.out, HAE.out]
              rw [hs] at hnx
              have HNX := Lib.hid hnx
              have HMM := Lib.hid hm
              rw [hm] at e7
              clear hnx hs hrt e10 e7 hm
              simp only [Option.isSome_none]
              go_wp2_with fail
              refine wp_region_held_drew (S := (fun w' => Row w' b10 106 (hcs T A))) (by kernel_rfl) RW.out (fun hHeld3 => ?_)
              refine wpAnyH_take (i := 0) (oi := ⟨some 59, _, _, _, _, _⟩) rfl (by kernel_rfl) (by kernel_rfl) (by kernel_rfl) (fun _ _ _ h => h) (yieldsIf_load_mid (by rfl) 106 (.tmp 10) rfl b10 0 ?x0m (hcs T A) _ (fun _ hS => Row.all hS) Try.underlying106 rfl HIH.out) hHeld3 ?r0m
              case x0m => first | rfl | (simp [Act.eval, go_sem]; done)
              try simp only [Act.put, List.setIfInBounds_toArray, List.set_cons_zero, List.set_cons_succ]
              refine wpAnyH_take (i := 1) (oi := ⟨some 6, _, _, _, _, _⟩) (v := ?v1m) rfl (by kernel_rfl) (by kernel_rfl) (by kernel_rfl) (fun _ _ _ h => h) (Or.inl ⟨by rfl, ?y1m⟩) hHeld3 ?r1m
              case y1m =>
                rintro w' hSw
                go_simp
                try with_reducible rfl
              try simp only [Act.put, List.setIfInBounds_toArray, List.set_cons_zero, List.set_cons_succ]
              refine wpAnyH_ready (rs := [2]) (by kernel_rfl) (by simp) ?_
              refine AllReadyH.cons rfl (fun K hK => ?_) AllReadyH.nil
              rw [if_pos (by rfl)]
              refine wp_store_whole 106 (.tmp 7) (.tmp 59) rfl b7 (hcs T A) rfl rfl 106 (mostV (headsH L n k)) (Row.drew RB7.out) (by rfl) (hcs_one _ _) HIH.out ?_
              intro w9 hr9 hg9
              replace hg9 : W.grownBy w9 (some b7) := ⟨hg9.os, hg9.tape, hg9.output, hg9.size, hg9.block⟩
              have R109 : Hid (Row w9 b10 106 (hcs T A)) := RW.out.grown hg9 (fun e => by have := Option.some.inj e; have := HNE.out; omega)
              have HREL : Hid (Row w9 b7 106 (mostV (headsH L n (k + 1))) ∧ Row w9 w.heap.size 106 [.int .u32 0, .int .u32 0] ∧ Row w9 gs 89 (bv L.flatten) ∧ Dk w9 F2 dg d2 ∧ Off F w w9) := Lib.hid ⟨by rw [HNX.out]; exact hr9, RRES.out.grown hg9 (fun e => by have := Option.some.inj e; have := HB7.out; omega), RGS.out.grown hg9 (fun e => by
                have h1 := row_type RGS.out ((Option.some.inj e) ▸ RB7.out); exact absurd h1 (by decide)), RDK.out.grown RB7.out (by decide) (by decide) (by decide) hg9, ROF.out.grown hg9 (fun r e => .inr (by have := Option.some.inj e; have := HB7.out; omega))⟩
              clear hr9 hg9
              refine hK _ _ R109.out (fun _ => ?_)
              clear hK K
              try simp only [Act.put, List.setIfInBounds_toArray, List.set_cons_zero, List.set_cons_succ]
              refine wpAnyH_done (by kernel_rfl) ?_ _
              go_wp2
              go_roundw
              case rel => exact ⟨k + 1, by omega, by go_num, by rw [HNX.out]; rfl, HREL⟩
              case measure => simp [intOf]; omega
            | some m =>
              rw [hm] at e7
              simp only [Option.getD_some] at e7
              by_cases hgt : m.1 < T
              · have hs : stepH x k n (headsH L n k) = some (T, A) := by
                  unfold stepH
                  rw [if_pos ⟨hrt.symm, .inr (by rw [hm, HTE.out]; exact hgt)⟩, HTE.out, HAE.out]
                rw [hs] at hnx
                have HNX := Lib.hid hnx
                have HMM := Lib.hid hm
                have hg2 : (m.1 : Int) < (T : Int) := by omega
                clear hnx hs hrt hm
                simp only [Option.isSome_some]
                go_wp2_with fail
                refine wp_region_held_drew (S := (fun w' => Row w' b10 106 (hcs T A))) (by kernel_rfl) RW.out (fun hHeld3 => ?_)
                refine wpAnyH_take (i := 0) (oi := ⟨some 59, _, _, _, _, _⟩) rfl (by kernel_rfl) (by kernel_rfl) (by kernel_rfl) (fun _ _ _ h => h) (yieldsIf_load_mid (by rfl) 106 (.tmp 10) rfl b10 0 ?x0n (hcs T A) _ (fun _ hS => Row.all hS) Try.underlying106 rfl HIH.out) hHeld3 ?r0n
                case x0n => first | rfl | (simp [Act.eval, go_sem]; done)
                try simp only [Act.put, List.setIfInBounds_toArray, List.set_cons_zero, List.set_cons_succ]
                refine wpAnyH_take (i := 1) (oi := ⟨some 6, _, _, _, _, _⟩) (v := ?v1n) rfl (by kernel_rfl) (by kernel_rfl) (by kernel_rfl) (fun _ _ _ h => h) (Or.inl ⟨by rfl, ?y1n⟩) hHeld3 ?r1n
                case y1n =>
                  rintro w' hSw
                  go_simp
                  try with_reducible rfl
                try simp only [Act.put, List.setIfInBounds_toArray, List.set_cons_zero, List.set_cons_succ]
                refine wpAnyH_ready (rs := [2]) (by kernel_rfl) (by simp) ?_
                refine AllReadyH.cons rfl (fun K hK => ?_) AllReadyH.nil
                rw [if_pos (by rfl)]
                refine wp_store_whole 106 (.tmp 7) (.tmp 59) rfl b7 (hcs T A) rfl rfl 106 (mostV (headsH L n k)) (Row.drew RB7.out) (by rfl) (hcs_one _ _) HIH.out ?_
                intro w9 hr9 hg9
                replace hg9 : W.grownBy w9 (some b7) := ⟨hg9.os, hg9.tape, hg9.output, hg9.size, hg9.block⟩
                have R109 : Hid (Row w9 b10 106 (hcs T A)) := RW.out.grown hg9 (fun e => by have := Option.some.inj e; have := HNE.out; omega)
                have HREL : Hid (Row w9 b7 106 (mostV (headsH L n (k + 1))) ∧ Row w9 w.heap.size 106 [.int .u32 0, .int .u32 0] ∧ Row w9 gs 89 (bv L.flatten) ∧ Dk w9 F2 dg d2 ∧ Off F w w9) := Lib.hid ⟨by rw [HNX.out]; exact hr9, RRES.out.grown hg9 (fun e => by have := Option.some.inj e; have := HB7.out; omega), RGS.out.grown hg9 (fun e => by
                  have h1 := row_type RGS.out ((Option.some.inj e) ▸ RB7.out); exact absurd h1 (by decide)), RDK.out.grown RB7.out (by decide) (by decide) (by decide) hg9, ROF.out.grown hg9 (fun r e => .inr (by have := Option.some.inj e; have := HB7.out; omega))⟩
                clear hr9 hg9
                refine hK _ _ R109.out (fun _ => ?_)
                clear hK K
                try simp only [Act.put, List.setIfInBounds_toArray, List.set_cons_zero, List.set_cons_succ]
                refine wpAnyH_done (by kernel_rfl) ?_ _
                go_wp2
                go_roundw
                case rel => exact ⟨k + 1, by omega, by go_num, by rw [HNX.out]; rfl, HREL⟩
                case measure => simp [intOf]; omega
              · have hs : stepH x k n (headsH L n k) = headsH L n k := by
                  unfold stepH
                  refine if_neg (fun hh => ?_)
                  obtain ⟨_, h⟩ := hh
                  rcases h with h | h
                  · rw [hm] at h; cases h
                  · rw [hm, HTE.out] at h; exact hgt h
                rw [hs] at hnx
                have HREL : Hid (Row W b7 106 (mostV (headsH L n (k + 1))) ∧ Row W w.heap.size 106 [.int .u32 0, .int .u32 0] ∧ Row W gs 89 (bv L.flatten) ∧ Dk W F2 dg d2 ∧ Off F w W) := Lib.hid ⟨by rw [hnx]; exact RB7.out, RRES.out, RGS.out, RDK.out, ROF.out⟩
                have HNX := Lib.hid hnx
                have HMM := Lib.hid hm
                have hg2 : ¬ (m.1 : Int) < (T : Int) := by omega
                clear hnx hs hrt hm
                simp only [Option.isSome_some]
                go_wp2
                go_roundw
                case rel => exact ⟨k + 1, by omega, by go_num, by rw [HNX.out, HMM.out]; rfl, HREL⟩
                case measure => simp [intOf]; omega
        have FIN := Lib.hid fin
        clear fin
        cases ok with
        | false =>
          have HRT : Hid (false = rightH x k n) := Lib.hid (by
            unfold rightH; rw [HOKE.out]; rfl)
          have HBW := Lib.hid HB6.out.drew
          refine wp_region_held_drew (S := (fun w' => Row w' b10 106 (hcs T A))) (by kernel_rfl) R106.out (fun hHeld => ?_)
          refine wpAnyH_take (i := 0) (oi := ⟨some 34, _, _, _, _, _⟩) (v := ?v0p) rfl (by kernel_rfl) (by kernel_rfl) (by kernel_rfl) (fun _ _ _ h => h) (Or.inl ⟨by rfl, ?y0p⟩) hHeld ?r0p
          case y0p =>
            rintro w' hSw
            go_simp
            try with_reducible rfl
          try simp only [Act.put, List.setIfInBounds_toArray, List.set_cons_zero, List.set_cons_succ]
          refine wpAnyH_take (i := 1) (oi := ⟨some 35, _, _, _, _, _⟩) (v := ?v1p) rfl (by kernel_rfl) (by kernel_rfl) (by kernel_rfl) (fun _ _ _ h => h) (Or.inl ⟨by rfl, ?y1p⟩) hHeld ?r1p
          case y1p =>
            rintro w' hSw
            go_simp
            try with_reducible rfl
          try simp only [Act.put, List.setIfInBounds_toArray, List.set_cons_zero, List.set_cons_succ]
          refine wpAnyH_take (i := 2) (oi := ⟨some 36, _, _, _, _, _⟩) (v := undef) rfl (by kernel_rfl) (by kernel_rfl) (by kernel_rfl) (fun _ _ _ h => h) (Or.inr ⟨by rfl, rfl⟩) hHeld ?r2p
          try simp only [Act.put, List.setIfInBounds_toArray, List.set_cons_zero, List.set_cons_succ]
          refine wpAnyH_take (i := 3) (oi := ⟨some 37, _, _, _, _, _⟩) (v := undef) rfl (by kernel_rfl) (by kernel_rfl) (by kernel_rfl) (fun _ _ _ h => h) (Or.inr ⟨by rfl, rfl⟩) hHeld ?r3p
          try simp only [Act.put, List.setIfInBounds_toArray, List.set_cons_zero, List.set_cons_succ]
          refine wpAnyH_take (i := 4) (oi := ⟨some 38, _, _, _, _, _⟩) (v := undef) rfl (by kernel_rfl) (by kernel_rfl) (by kernel_rfl) (fun _ _ _ h => h) (Or.inr ⟨by rfl, rfl⟩) hHeld ?r4p
          try simp only [Act.put, List.setIfInBounds_toArray, List.set_cons_zero, List.set_cons_succ]
          refine wpAnyH_take (i := 5) (oi := ⟨some 39, _, _, _, _, _⟩) (v := undef) rfl (by kernel_rfl) (by kernel_rfl) (by kernel_rfl) (fun _ _ _ h => h) (Or.inr ⟨by rfl, rfl⟩) hHeld ?r5p
          try simp only [Act.put, List.setIfInBounds_toArray, List.set_cons_zero, List.set_cons_succ]
          refine wpAnyH_take (i := 6) (oi := ⟨some 40, _, _, _, _, _⟩) (v := ?v6p) rfl (by kernel_rfl) (by kernel_rfl) (by kernel_rfl) (fun _ _ _ h => h) (Or.inl ⟨by rfl, ?y6p⟩) hHeld ?r6p
          case y6p =>
            rintro w' hSw
            go_simp
            try with_reducible rfl
          try simp only [Act.put, List.setIfInBounds_toArray, List.set_cons_zero, List.set_cons_succ]
          refine wpAnyH_take (i := 7) (oi := ⟨some 41, _, _, _, _, _⟩) (v := ?v7p) rfl (by kernel_rfl) (by kernel_rfl) (by kernel_rfl) (fun _ _ _ h => h) (Or.inl ⟨by rfl, ?y7p⟩) hHeld ?r7p
          case y7p =>
            rintro w' hSw
            go_simp
            try with_reducible rfl
          try simp only [Act.put, List.setIfInBounds_toArray, List.set_cons_zero, List.set_cons_succ]
          refine wpAnyH_take (i := 8) (oi := ⟨some 42, _, _, _, _, _⟩) (v := undef) rfl (by kernel_rfl) (by kernel_rfl) (by kernel_rfl) (fun _ _ _ h => h) (Or.inr ⟨by rfl, rfl⟩) hHeld ?r8p
          try simp only [Act.put, List.setIfInBounds_toArray, List.set_cons_zero, List.set_cons_succ]
          refine wpAnyH_take (i := 9) (oi := ⟨some 43, _, _, _, _, _⟩) (v := undef) rfl (by kernel_rfl) (by kernel_rfl) (by kernel_rfl) (fun _ _ _ h => h) (Or.inr ⟨by rfl, rfl⟩) hHeld ?r9p
          try simp only [Act.put, List.setIfInBounds_toArray, List.set_cons_zero, List.set_cons_succ]
          refine wpAnyH_take (i := 10) (oi := ⟨some 44, _, _, _, _, _⟩) (v := undef) rfl (by kernel_rfl) (by kernel_rfl) (by kernel_rfl) (fun _ _ _ h => h) (Or.inr ⟨by rfl, rfl⟩) hHeld ?r10p
          try simp only [Act.put, List.setIfInBounds_toArray, List.set_cons_zero, List.set_cons_succ]
          refine wpAnyH_take (i := 11) (oi := ⟨some 45, _, _, _, _, _⟩) (v := undef) rfl (by kernel_rfl) (by kernel_rfl) (by kernel_rfl) (fun _ _ _ h => h) (Or.inr ⟨by rfl, rfl⟩) hHeld ?r11p
          try simp only [Act.put, List.setIfInBounds_toArray, List.set_cons_zero, List.set_cons_succ]
          refine wpAnyH_take (i := 12) (oi := ⟨some 46, _, _, _, _, _⟩) (v := ?v12p) rfl (by kernel_rfl) (by kernel_rfl) (by kernel_rfl) (fun _ _ _ h => h) (Or.inl ⟨by rfl, ?y12p⟩) hHeld ?r12p
          case y12p =>
            rintro w' hSw
            go_simp
            try with_reducible rfl
          try simp only [Act.put, List.setIfInBounds_toArray, List.set_cons_zero, List.set_cons_succ]
          refine wpAnyH_take (i := 13) (oi := ⟨some 12, _, _, _, _, _⟩) (v := ?v13p) rfl (by kernel_rfl) (by kernel_rfl) (by kernel_rfl) (fun _ _ _ h => h) (Or.inl ⟨by rfl, ?y13p⟩) hHeld ?r13p
          case y13p =>
            rintro w' hSw
            go_simp
            try with_reducible rfl
          try simp only [Act.put, List.setIfInBounds_toArray, List.set_cons_zero, List.set_cons_succ]
          refine wpAnyH_done (by kernel_rfl) ?_ _
          exact FIN.out _ _ _ _ _ _ _ _ _ _ _ _ _ _ _ HRT.out HBW.out (Row.drew R106.out)
        | true =>
          by_cases hpl : T % 2 = k
          · have hpi : ((T % 2 : Nat) : Int) = (k : Int) := by omega
            refine wp_region_held_drew (S := (fun w' => Row w' b10 106 (hcs T A))) (by kernel_rfl) R106.out (fun hHeld => ?_)
            refine wpAnyH_take (i := 0) (oi := ⟨some 34, _, _, _, _, _⟩) (v := ?v0q) rfl (by kernel_rfl) (by kernel_rfl) (by kernel_rfl) (fun _ _ _ h => h) (Or.inl ⟨by rfl, ?y0q⟩) hHeld ?r0q
            case y0q =>
              rintro w' hSw
              go_simp
              try with_reducible rfl
            try simp only [Act.put, List.setIfInBounds_toArray, List.set_cons_zero, List.set_cons_succ]
            refine wpAnyH_take (i := 1) (oi := ⟨some 35, _, _, _, _, _⟩) (v := ?v1q) rfl (by kernel_rfl) (by kernel_rfl) (by kernel_rfl) (fun _ _ _ h => h) (Or.inl ⟨by rfl, ?y1q⟩) hHeld ?r1q
            case y1q =>
              rintro w' hSw
              go_simp
              try with_reducible rfl
            try simp only [Act.put, List.setIfInBounds_toArray, List.set_cons_zero, List.set_cons_succ]
            refine wpAnyH_take (i := 2) (oi := ⟨some 36, _, _, _, _, _⟩) rfl (by kernel_rfl) (by kernel_rfl) (by kernel_rfl) (fun _ _ _ h => h) (yieldsIf_load_mid (by rfl) 106 (.tmp 10) rfl b10 0 ?x2q (hcs T A) _ (fun _ hS => Row.all hS) Try.underlying106 rfl HIH.out) hHeld ?r2q
            case x2q => first | rfl | (simp [Act.eval, go_sem]; done)
            try simp only [Act.put, List.setIfInBounds_toArray, List.set_cons_zero, List.set_cons_succ]
            refine wpAnyH_take (i := 4) (oi := ⟨some 38, _, _, _, _, _⟩) (v := ?v4q) rfl (by kernel_rfl) (by kernel_rfl) (by kernel_rfl) (fun _ _ _ h => h) (Or.inl ⟨by rfl, ?y4q⟩) hHeld ?r4q
            case y4q =>
              rintro w' hSw
              go_simp
              try with_reducible rfl
            try simp only [Act.put, List.setIfInBounds_toArray, List.set_cons_zero, List.set_cons_succ]
            refine wpAnyH_ready (rs := [3]) (by kernel_rfl) (by simp) ?_
            refine AllReadyH.cons rfl (fun K hK => ?_) AllReadyH.nil
            go_simp
            refine (place_any T A w6.drew hT2).mono ?_
            rintro e w7 ⟨rfl, hb7x⟩
            have hr7 : Row w7 b10 106 (hcs T A) := (Row.drew R106.out).below hb7x (Row.drew R106.out).lt
            have R107 := Lib.hid hr7
            have HB7w : Hid (Below wr.heap.size wr w7) := Lib.hid (HB6.out.drew.trans (hb7x.mono HB6.out.drew.size))
            clear hb7x hr7
            refine hK _ _ R107.out (fun _ => ?_)
            clear hK K
            try simp only [Act.put, List.setIfInBounds_toArray, List.set_cons_zero, List.set_cons_succ]
            refine wpAnyH_take (i := 5) (oi := ⟨some 39, _, _, _, _, _⟩) (v := ?v5q) rfl (by kernel_rfl) (by kernel_rfl) (by kernel_rfl) (fun _ _ _ h => h) (Or.inl ⟨by rfl, ?y5q⟩) R107.out ?r5q
            case y5q =>
              rintro w' hSw
              simp only [hpi, beq_self_eq_true, decide_true]
              go_simp
              try with_reducible rfl
            try simp only [Act.put, List.setIfInBounds_toArray, List.set_cons_zero, List.set_cons_succ]
            refine wpAnyH_take (i := 6) (oi := ⟨some 40, _, _, _, _, _⟩) (v := ?v6q) rfl (by kernel_rfl) (by kernel_rfl) (by kernel_rfl) (fun _ _ _ h => h) (Or.inl ⟨by rfl, ?y6q⟩) R107.out ?r6q
            case y6q =>
              rintro w' hSw
              go_simp
              try with_reducible rfl
            try simp only [Act.put, List.setIfInBounds_toArray, List.set_cons_zero, List.set_cons_succ]
            refine wpAnyH_take (i := 7) (oi := ⟨some 41, _, _, _, _, _⟩) (v := ?v7q) rfl (by kernel_rfl) (by kernel_rfl) (by kernel_rfl) (fun _ _ _ h => h) (Or.inl ⟨by rfl, ?y7q⟩) R107.out ?r7q
            case y7q =>
              rintro w' hSw
              go_simp
              try with_reducible rfl
            try simp only [Act.put, List.setIfInBounds_toArray, List.set_cons_zero, List.set_cons_succ]
            refine wpAnyH_take (i := 8) (oi := ⟨some 42, _, _, _, _, _⟩) rfl (by kernel_rfl) (by kernel_rfl) (by kernel_rfl) (fun _ _ _ h => h) (yieldsIf_load_mid (by rfl) 106 (.tmp 10) rfl b10 0 ?x8q (hcs T A) _ (fun _ hS => Row.all hS) Try.underlying106 rfl HIH.out) R107.out ?r8q
            case x8q => first | rfl | (simp [Act.eval, go_sem]; done)
            try simp only [Act.put, List.setIfInBounds_toArray, List.set_cons_zero, List.set_cons_succ]
            refine wpAnyH_take (i := 9) (oi := ⟨some 43, _, _, _, _, _⟩) (v := ?v9q) rfl (by kernel_rfl) (by kernel_rfl) (by kernel_rfl) (fun _ _ _ h => h) (Or.inl ⟨by rfl, ?y9q⟩) R107.out ?r9q
            case y9q =>
              rintro w' hSw
              go_simp
              try with_reducible rfl
            try simp only [Act.put, List.setIfInBounds_toArray, List.set_cons_zero, List.set_cons_succ]
            refine wpAnyH_ready (rs := [10]) (by kernel_rfl) (by simp) ?_
            refine AllReadyH.cons rfl (fun K hK => ?_) AllReadyH.nil
            go_simp
            refine (len_any dg d2 F2 w7 (HI.out.2.2.2.1.below HB7w.out).1.1).mono ?_
            rintro e w8 ⟨rfl, hw8⟩
            subst hw8
            refine hK _ _ R107.out (fun _ => ?_)
            clear hK K
            try simp only [Act.put, List.setIfInBounds_toArray, List.set_cons_zero, List.set_cons_succ]
            refine wpAnyH_ready (rs := [11]) (by kernel_rfl) (by simp) ?_
            refine AllReadyH.cons rfl (fun K hK => ?_) AllReadyH.nil
            have hdn : d2.sec.length = n := by rw [HSEC.out, HNN.out]
            rw [hdn]
            clear hdn
            go_simp
            refine (fits_any T A n w8 hT2 hA2 hn2).mono ?_
            rintro e w9 ⟨rfl, hb9x⟩
            have R109 : Hid (Row w9 b10 106 (hcs T A)) := Lib.hid (R107.out.below hb9x R107.out.lt)
            have HB9w : Hid (Below wr.heap.size wr w9) := Lib.hid (HB7w.out.trans (hb9x.mono HB7w.out.size))
            clear hb9x
            refine hK _ _ R109.out (fun _ => ?_)
            clear hK K
            try simp only [Act.put, List.setIfInBounds_toArray, List.set_cons_zero, List.set_cons_succ]
            refine wpAnyH_take (i := 12) (oi := ⟨some 46, _, _, _, _, _⟩) (v := ?v12q) rfl (by kernel_rfl) (by kernel_rfl) (by kernel_rfl) (fun _ _ _ h => h) (Or.inl ⟨by rfl, ?y12q⟩) R109.out ?r12q
            case y12q =>
              rintro w' hSw
              go_simp
              try with_reducible rfl
            try simp only [Act.put, List.setIfInBounds_toArray, List.set_cons_zero, List.set_cons_succ]
            refine wpAnyH_take (i := 13) (oi := ⟨some 12, _, _, _, _, _⟩) (v := ?v13q) rfl (by kernel_rfl) (by kernel_rfl) (by kernel_rfl) (fun _ _ _ h => h) (Or.inl ⟨by rfl, ?y13q⟩) R109.out ?r13q
            case y13q =>
              rintro w' hSw
              go_simp
              try with_reducible rfl
            try simp only [Act.put, List.setIfInBounds_toArray, List.set_cons_zero, List.set_cons_succ]
            refine wpAnyH_done (by kernel_rfl) ?_ _
            refine FIN.out _ _ _ _ _ _ _ _ _ _ _ _ _ _ _ ?_ HB9w.out R109.out
            unfold rightH
            rw [HOKE.out, HTE.out, HAE.out, hpl]
            simp
          · have hpi : ¬ ((T % 2 : Nat) : Int) = (k : Int) := by omega
            refine wp_region_held_drew (S := (fun w' => Row w' b10 106 (hcs T A))) (by kernel_rfl) R106.out (fun hHeld => ?_)
            refine wpAnyH_take (i := 0) (oi := ⟨some 34, _, _, _, _, _⟩) (v := ?v0r) rfl (by kernel_rfl) (by kernel_rfl) (by kernel_rfl) (fun _ _ _ h => h) (Or.inl ⟨by rfl, ?y0r⟩) hHeld ?r0r
            case y0r =>
              rintro w' hSw
              go_simp
              try with_reducible rfl
            try simp only [Act.put, List.setIfInBounds_toArray, List.set_cons_zero, List.set_cons_succ]
            refine wpAnyH_take (i := 1) (oi := ⟨some 35, _, _, _, _, _⟩) (v := ?v1r) rfl (by kernel_rfl) (by kernel_rfl) (by kernel_rfl) (fun _ _ _ h => h) (Or.inl ⟨by rfl, ?y1r⟩) hHeld ?r1r
            case y1r =>
              rintro w' hSw
              go_simp
              try with_reducible rfl
            try simp only [Act.put, List.setIfInBounds_toArray, List.set_cons_zero, List.set_cons_succ]
            refine wpAnyH_take (i := 2) (oi := ⟨some 36, _, _, _, _, _⟩) rfl (by kernel_rfl) (by kernel_rfl) (by kernel_rfl) (fun _ _ _ h => h) (yieldsIf_load_mid (by rfl) 106 (.tmp 10) rfl b10 0 ?x2r (hcs T A) _ (fun _ hS => Row.all hS) Try.underlying106 rfl HIH.out) hHeld ?r2r
            case x2r => first | rfl | (simp [Act.eval, go_sem]; done)
            try simp only [Act.put, List.setIfInBounds_toArray, List.set_cons_zero, List.set_cons_succ]
            refine wpAnyH_take (i := 4) (oi := ⟨some 38, _, _, _, _, _⟩) (v := ?v4r) rfl (by kernel_rfl) (by kernel_rfl) (by kernel_rfl) (fun _ _ _ h => h) (Or.inl ⟨by rfl, ?y4r⟩) hHeld ?r4r
            case y4r =>
              rintro w' hSw
              go_simp
              try with_reducible rfl
            try simp only [Act.put, List.setIfInBounds_toArray, List.set_cons_zero, List.set_cons_succ]
            refine wpAnyH_ready (rs := [3]) (by kernel_rfl) (by simp) ?_
            refine AllReadyH.cons rfl (fun K hK => ?_) AllReadyH.nil
            go_simp
            refine (place_any T A w6.drew hT2).mono ?_
            rintro e w7 ⟨rfl, hb7x⟩
            have hr7 : Row w7 b10 106 (hcs T A) := (Row.drew R106.out).below hb7x (Row.drew R106.out).lt
            have R107 := Lib.hid hr7
            have HB7w : Hid (Below wr.heap.size wr w7) := Lib.hid (HB6.out.drew.trans (hb7x.mono HB6.out.drew.size))
            clear hb7x hr7
            refine hK _ _ R107.out (fun _ => ?_)
            clear hK K
            try simp only [Act.put, List.setIfInBounds_toArray, List.set_cons_zero, List.set_cons_succ]
            refine wpAnyH_take (i := 5) (oi := ⟨some 39, _, _, _, _, _⟩) (v := .bool false) rfl (by kernel_rfl) (by kernel_rfl) (by kernel_rfl) (fun _ _ _ h => h) (Or.inl ⟨by rfl, ?y5r⟩) R107.out ?r5r
            case y5r =>
              rintro w' hSw
              go_simp
              omega
            try simp only [Act.put, List.setIfInBounds_toArray, List.set_cons_zero, List.set_cons_succ]
            refine wpAnyH_take (i := 6) (oi := ⟨some 40, _, _, _, _, _⟩) (v := ?v6r) rfl (by kernel_rfl) (by kernel_rfl) (by kernel_rfl) (fun _ _ _ h => h) (Or.inl ⟨by rfl, ?y6r⟩) R107.out ?r6r
            case y6r =>
              rintro w' hSw
              go_simp
              try with_reducible rfl
            try simp only [Act.put, List.setIfInBounds_toArray, List.set_cons_zero, List.set_cons_succ]
            refine wpAnyH_take (i := 7) (oi := ⟨some 41, _, _, _, _, _⟩) (v := ?v7r) rfl (by kernel_rfl) (by kernel_rfl) (by kernel_rfl) (fun _ _ _ h => h) (Or.inl ⟨by rfl, ?y7r⟩) R107.out ?r7r
            case y7r =>
              rintro w' hSw
              go_simp
              try with_reducible rfl
            try simp only [Act.put, List.setIfInBounds_toArray, List.set_cons_zero, List.set_cons_succ]
            refine wpAnyH_take (i := 8) (oi := ⟨some 42, _, _, _, _, _⟩) (v := undef) rfl (by kernel_rfl) (by kernel_rfl) (by kernel_rfl) (fun _ _ _ h => h) (Or.inr ⟨by rfl, rfl⟩) R107.out ?r8r
            try simp only [Act.put, List.setIfInBounds_toArray, List.set_cons_zero, List.set_cons_succ]
            refine wpAnyH_take (i := 9) (oi := ⟨some 43, _, _, _, _, _⟩) (v := undef) rfl (by kernel_rfl) (by kernel_rfl) (by kernel_rfl) (fun _ _ _ h => h) (Or.inr ⟨by rfl, rfl⟩) R107.out ?r9r
            try simp only [Act.put, List.setIfInBounds_toArray, List.set_cons_zero, List.set_cons_succ]
            refine wpAnyH_take (i := 10) (oi := ⟨some 44, _, _, _, _, _⟩) (v := undef) rfl (by kernel_rfl) (by kernel_rfl) (by kernel_rfl) (fun _ _ _ h => h) (Or.inr ⟨by rfl, rfl⟩) R107.out ?r10r
            try simp only [Act.put, List.setIfInBounds_toArray, List.set_cons_zero, List.set_cons_succ]
            refine wpAnyH_take (i := 11) (oi := ⟨some 45, _, _, _, _, _⟩) (v := undef) rfl (by kernel_rfl) (by kernel_rfl) (by kernel_rfl) (fun _ _ _ h => h) (Or.inr ⟨by rfl, rfl⟩) R107.out ?r11r
            try simp only [Act.put, List.setIfInBounds_toArray, List.set_cons_zero, List.set_cons_succ]
            refine wpAnyH_take (i := 12) (oi := ⟨some 46, _, _, _, _, _⟩) (v := ?v12r) rfl (by kernel_rfl) (by kernel_rfl) (by kernel_rfl) (fun _ _ _ h => h) (Or.inl ⟨by rfl, ?y12r⟩) R107.out ?r12r
            case y12r =>
              rintro w' hSw
              go_simp
              try with_reducible rfl
            try simp only [Act.put, List.setIfInBounds_toArray, List.set_cons_zero, List.set_cons_succ]
            refine wpAnyH_take (i := 13) (oi := ⟨some 12, _, _, _, _, _⟩) (v := ?v13r) rfl (by kernel_rfl) (by kernel_rfl) (by kernel_rfl) (fun _ _ _ h => h) (Or.inl ⟨by rfl, ?y13r⟩) R107.out ?r13r
            case y13r =>
              rintro w' hSw
              go_simp
              try with_reducible rfl
            try simp only [Act.put, List.setIfInBounds_toArray, List.set_cons_zero, List.set_cons_succ]
            refine wpAnyH_done (by kernel_rfl) ?_ _
            refine FIN.out _ _ _ _ _ _ _ _ _ _ _ _ _ _ _ ?_ HB7w.out R107.out
            unfold rightH
            rw [HTE.out, decide_eq_false hpl]
            simp
      · have hk2 : k = 2 := by omega
        subst hk2
        have h1 : ¬ ((2 : Nat) : Int) < 2 := by omega
        cases hm : headsH L n 2 with
        | none =>
          have R23 := Lib.hid HI.out.2.1
          have HD3 := Lib.hid HI.out.2.2.2.1
          have HO3 := Lib.hid HI.out.2.2.2.2
          simp only [Option.isSome_none]
          have HM := Lib.hid hm
          clear hm
          have HLH := Lib.hid (show (hcs 0 0).length = ([.int .u32 0, .int .u32 0] : List Value).length from rfl)
          have HIH := Lib.hid (show (Try.prog.info? 106).map (·.size) = some (hcs 0 0).length from size106)
          go_wp2_with (first
            | (with_reducible refine wpList_store_whole (op := ⟨none, _, _, _, _, _⟩) ?_ 106 (.tmp 2) (.tmp 63) ?_ w.heap.size (hcs 0 0) ?_ ?_ 106 [.int .u32 0, .int .u32 0] R23.out HLH.out (hcs_one _ _) HIH.out ?_))
          all_goals try (first | rfl | (simp; done))
          intro w9 hr9 hg9
          have HRES := Lib.hid (run_loadVar_mid (P := Try.prog) w9 w.heap.size 0 106 (hcs 0 0) _ (Row.all hr9) Try.underlying106 rfl HIH.out)
          have HD9 := Lib.hid (HD3.out.grown R23.out (by decide) (by decide) (by decide) hg9)
          have HO9 := Lib.hid (HO3.out.grown hg9 (fun r e => .inr (Nat.le_of_eq (Option.some.inj e))))
          have HX9 : Hid (Ext F F2 w w9) := Lib.hid fun k hk => by
            rcases HX2.out k hk with h | h
            · exact .inl h
            · exact .inr ⟨h.1, HD9.out.1.2 _ hk⟩
          clear hr9 hg9
          go_wp2
          refine bodyPost_ret (v := .tuple #[.agg (hcs 0 0).toArray, .int .i64 140]) (Dsk.results_cell_tmp (p := 2) (q := 3) (ty := 106) rfl _ _ ⟨w.heap.size, 0, none⟩ _ _ rfl HRES.out rfl) rfl ⟨F2, ?_, HX9.out, HO9.out, ?_⟩
          · rw [HE.out]; exact HD9.out
          · rw [HE.out, if_pos rfl]
            show _ = Ending.returned (headsOut L d.sec.length)
            unfold headsOut
            rw [HNN.out, HM.out]
        | some m =>
          have R73 : Hid (Row wr b7 106 (hcs m.1 m.2)) := Lib.hid (by have := HI.out.1; rw [hm] at this; exact this)
          have R23 := Lib.hid HI.out.2.1
          have HD3 := Lib.hid HI.out.2.2.2.1
          have HO3 := Lib.hid HI.out.2.2.2.2
          simp only [Option.isSome_some]
          have HM := Lib.hid hm
          clear hm
          have HLH := Lib.hid (show (hcs m.1 m.2).length = ([.int .u32 0, .int .u32 0] : List Value).length from rfl)
          have HIH := Lib.hid (show (Try.prog.info? 106).map (·.size) = some (hcs m.1 m.2).length from size106)
          go_wp2_with (first
            | (with_reducible refine wpList_load_row (op := ⟨some 64, _, _, _, _, _⟩) ?_ 106 (.tmp 7) ?_ b7 0 ?_ (hcs m.1 m.2) _ (Row.all R73.out) Try.underlying106 ?_ HIH.out ?_)
            | (with_reducible refine wpList_store_whole (op := ⟨none, _, _, _, _, _⟩) ?_ 106 (.tmp 2) (.tmp 64) ?_ w.heap.size (hcs m.1 m.2) ?_ ?_ 106 [.int .u32 0, .int .u32 0] R23.out HLH.out (hcs_one _ _) HIH.out ?_))
          all_goals try (first | rfl | (simp; done))
          intro w9 hr9 hg9
          have HRES := Lib.hid (run_loadVar_mid (P := Try.prog) w9 w.heap.size 0 106 (hcs m.1 m.2) _ (Row.all hr9) Try.underlying106 rfl HIH.out)
          have HD9 := Lib.hid (HD3.out.grown R23.out (by decide) (by decide) (by decide) hg9)
          have HO9 := Lib.hid (HO3.out.grown hg9 (fun r e => .inr (Nat.le_of_eq (Option.some.inj e))))
          have HX9 : Hid (Ext F F2 w w9) := Lib.hid fun k hk => by
            rcases HX2.out k hk with h | h
            · exact .inl h
            · exact .inr ⟨h.1, HD9.out.1.2 _ hk⟩
          clear hr9 hg9
          go_wp2
          refine bodyPost_ret (v := .tuple #[.agg (hcs m.1 m.2).toArray, .int .i64 0]) (Dsk.results_cell_tmp (p := 2) (q := 3) (ty := 106) rfl _ _ ⟨w.heap.size, 0, none⟩ _ _ rfl HRES.out rfl) rfl ⟨F2, ?_, HX9.out, HO9.out, ?_⟩
          · rw [HE.out]; exact HD9.out
          · rw [HE.out, if_pos rfl]
            show _ = Ending.returned (headsOut L d.sec.length)
            unfold headsOut
            rw [HNN.out, HM.out]
  · have HLH := Lib.hid (show (hcs 0 0).length = ([.int .u32 0, .int .u32 0] : List Value).length from rfl)
    have HIH := Lib.hid (show (Try.prog.info? 106).map (·.size) = some (hcs 0 0).length from size106)
    go_wp2_with (first
      | (with_reducible refine wpList_store_whole (op := ⟨none, _, _, _, _, _⟩) ?_ 106 (.tmp 2) (.tmp 20) ?_ w.heap.size (hcs 0 0) ?_ ?_ 106 [.int .u32 0, .int .u32 0] R2.out HLH.out (hcs_one _ _) HIH.out ?_))
    all_goals try (first | rfl | (simp; done))
    intro w3 hr3 hg3
    have HRES := Lib.hid (run_loadVar_mid (P := Try.prog) w3 w.heap.size 0 106 (hcs 0 0) _ (Row.all hr3) Try.underlying106 rfl HIH.out)
    have HD3 := Lib.hid (HD2.out.grown R2.out (by decide) (by decide) (by decide) hg3)
    have HO3 := Lib.hid (HO2.out.grown hg3 (fun r e => .inr (Nat.le_of_eq (Option.some.inj e))))
    have HX3 : Hid (Ext F F2 w w3) := Lib.hid fun k hk => by
      rcases HX2.out k hk with h | h
      · exact .inl h
      · exact .inr ⟨h.1, Nat.lt_of_lt_of_le h.2 hg3.size⟩
    clear hr3 hg3
    go_wp2
    refine bodyPost_ret (v := .tuple #[.agg (hcs 0 0).toArray, .int .i64 er]) (Dsk.results_cell_tmp (p := 2) (q := 3) (ty := 106) rfl _ _ ⟨w.heap.size, 0, none⟩ _ _ rfl HRES.out rfl) rfl ⟨F2, ?_, HX3.out, HO3.out, ?_⟩
    · rw [HE.out]; exact HD3.out
    · rw [HE.out, if_neg h0]
end Go.Proofs.Yteemdjamgbbjhaa.Wl

/-
  The bytes that a frame's sectors claim.
-/
namespace Go.Proofs.Yteemdjamgbbjhaa.Wl
set_option maxRecDepth 100000
open Go.RowKit Go.Shelf Go.Proofs.Yteemdjamgbbjhaa.Wd Go.Proofs.Yteemdjamgbbjhaa.Dsk Go.Proofs.Yteemdjamgbbjhaa.Oct Go.Proofs.Yteemdjamgbbjhaa.Sum

/-- what claimed answers -/
def Cl (w w' : World) (m : Option (List UInt8)) (e : Ending) : Prop :=
  (m = none ∧ e = .returned (.tuple #[.slice none 0 0, .bool false])) ∨ ∃ l A c, m = some l ∧ e = .returned (.tuple #[.slice A l.length c, .bool true]) ∧ Sl w' w'.heap.size A l.length c l
/-- the sectors of a row, from one on -/
def Sect (w : World) (gs u : Nat) (L : List (List UInt8)) : Prop := (∀ b ∈ L, b.length = 64) ∧ Bs w w.heap.size (some ⟨gs, u * 64, none⟩) L.flatten
theorem flat_at (L : List (List UInt8)) : ∀ k, (∀ b ∈ L, b.length = 64) → k < L.length → (L.flatten.drop (k * 64)).take 64 = L.getD k nought := by
  induction L with
  | nil => intro k _ h; simp at h
  | cons x L ih =>
    intro k h64 hk
    have hx : x.length = 64 := h64 x (by simp)
    cases k with
    | zero => simp [hx]
    | succ k =>
      rw [List.flatten_cons, show (k + 1) * 64 = x.length + k * 64 by omega, List.drop_append, List.drop_eq_nil_of_le (by omega), List.nil_append, Nat.add_sub_cancel_left]
      rw [ih k (fun b hb => h64 b (by simp [hb])) (by simpa using hk)]
      rfl
theorem flat_take (L : List (List UInt8)) (k : Nat) (hk : k < L.length) : (L.take (k + 1)).flatMap (List.drop 16) = (L.take k).flatMap (List.drop 16) ++ (L.getD k nought).drop 16 := by
  rw [List.take_add_one, List.getElem?_eq_getElem hk, List.getD_eq_getElem?_getD, List.getElem?_eq_getElem hk]
  simp only [List.flatMap_append, Option.toList_some, List.flatMap_cons, List.flatMap_nil, List.append_nil, Option.getD_some]
theorem Sect.at {w : World} {gs u : Nat} {L : List (List UInt8)} (h : Sect w gs u L) (k : Nat) (hk : k < L.length) : w.rangeAt gs (u * 64 + k * 64) (bv (L.getD k nought)) := by
  have hf : L.flatten.length = L.length * 64 := flat_len L h.1
  have := h.2.cut (k * 64) 64 (by omega)
  rw [flat_at L k h.1 hk] at this
  exact bs_range (by simpa [Addr.add_lit] using this)
theorem Sect.len64 {w : World} {gs u : Nat} {L : List (List UInt8)} (h : Sect w gs u L) (k : Nat) (hk : k < L.length) : (L.getD k nought).length = 64 := by
  rw [List.getD_eq_getElem?_getD, List.getElem?_eq_getElem hk]
  exact h.1 _ (List.getElem_mem _)
theorem Sect.below {w w' : World} {gs u : Nat} {L : List (List UInt8)} (h : Sect w gs u L) (hb : Below w.heap.size w w') : Sect w' gs u L := ⟨h.1, (h.2.below hb).more hb.size⟩
theorem wpList_append_bs {P : Program} {w : World} {ops : Array Oper} {rest : List Oper} {o : Oper} {a : Act} {Q : Exit → Act → World → Prop} (hgd : Region.wanted o (yielded ops a.tmps) = true) (s x : Operand) (t : TypeId)
    (ho : o.op = .call { callee := .builtin .append, args := #[s, x], argTypes := #[t, t] })
    (base : Nat) (e : TypeId) (i : TypeInfo) (z : Value) (ht : P.underlying t = some (.slice e)) (hi : P.info? e = some i) (hz : i.zero = some z) (hsize : i.size = 1) (hby : i.bytes = 1) (hzs : z.cells.size = 1)
    (v : Value) (n : Nat) (xs : List Value) (hs : a.eval s = v) (hown : w.ownsRow base e 1 v n xs)
    (ad : Addr) (m c : Nat) (l : List UInt8) (hx : a.eval x = .slice (some ad) m c) (hl : l.length = m) (B : Nat) (hr : Bs w B (some ad) l)
    (h63 : n + m ≤ 140737488355328) (hbase : base ≤ w.heap.size)
    (h : ∀ v' w', w'.ownsRow base e 1 v' (n + m) (xs ++ bv l) → w.grownBy w' v.ownBlock → wpList P ops Q rest (a.put o.dst v') w') : wpList P ops Q (o :: rest) a w :=
  wpList_wanted hgd fun _ hK => wp_append_bs s x t ho base e i z ht hi hz hsize hby hzs v n xs hs hown ad m c l hx hl B hr h63 hbase fun v' w' h2 h3 => hK _ _ (h v' w' h2 h3)
theorem own_base {w w' : World} {base : Nat} {e : TypeId} {v : Value} {n : Nat} {xs : List Value} (h : w.ownsRow base e 1 v n xs) (hb : Below w.heap.size w w') : w'.ownsRow base e 1 v n xs := by
  rcases h with ⟨hl, hv | ⟨g, cap, cur, hv, hb2, hg, hr⟩⟩
  · exact ⟨hl, .inl hv⟩
  · exact ⟨hl, .inr ⟨g, cap, cur, hv, hb2, (hb.block g (Array.getElem?_eq_some_iff.1 hg).1).trans hg, hr⟩⟩
set_option maxHeartbeats 8000000 in
theorem claimed_any (gs u c : Nat) (L : List (List UInt8)) (w : World) (hs : Sect w gs u L) (hc : L.length ≤ c) (hm : L.length ≤ 1000) :
    Calls Try.prog 83 #[.slice (some ⟨gs, u * 64, none⟩) L.length c] w fun e w' => Cl w w' (claimedM L) e ∧ Below w.heap.size w w' := by
  have mixed : Try.prog.follows .mixedOrders = true := by kernel_rfl
  cases L with
  | nil =>
    go_enter Try.func83, Try.ntmps83
    go_wp2
    exact bodyPost_ret (v := .tuple #[.slice none 0 0, .bool false]) (by simp [results, Try.results83, go_sem]) rfl ⟨.inl ⟨rfl, rfl⟩, Below.refl _ _⟩
  | cons h t =>
    have hh64 : h.length = 64 := hs.1 h (by simp)
    have hbs : Bs w w.heap.size (some ⟨gs, u * 64 + 16, none⟩) (h.drop 16) := by
      have := hs.2.cut 16 48 (by simp [hh64])
      rw [List.flatten_cons, List.drop_append_of_le_length (by omega), List.take_append_of_le_length (by simp [hh64]), List.take_of_length_le (by simp [hh64])] at this
      simpa [Addr.add_lit] using this
    have HS := Lib.hid hs
    have HH64 := Lib.hid hh64
    have HBS := Lib.hid hbs
    have hN := num4_lt (h.drop 16)
    have hst : (Oct.step (h.drop 16) 0 0 4).1 = (h.drop 16).take 4 := by
      have hl48 : (h.drop 16).length = 48 := by simp [hh64]
      unfold Oct.step
      rw [if_neg (by simp), if_neg (by omega), if_neg (by omega)]
      simp
    have HST := Lib.hid hst
    clear hs hh64 hbs hst
    obtain ⟨N, hNe⟩ : ∃ N, num ((h.drop 16).take 4) = N := ⟨_, rfl⟩
    have HN := Lib.hid hNe
    rw [hNe] at hN
    have hcl : claimedM (h :: t) = if 40000 < N then none else if (h :: t).length < sects N then none else some (((((h :: t).take (sects N)).flatMap (List.drop 16)).drop 4).take N) := by
      rw [← hNe]; rfl
    have HCL := Lib.hid hcl
    clear hNe hcl
    have h1 : ¬ ((t.length : Int) + 1 = 0) := by omega
    go_enter Try.func83, Try.ntmps83
    go_wp2_with fail
    refine (Oct.read_any (some ⟨gs, u * 64 + 16, none⟩) (h.drop 16) 48 48 w (by simp [HH64.out]) (by omega) _ HBS.out (fun e => by cases e)).mono ?_
    rintro e w2 ⟨g2, rfl, hg2, hrd, hb2⟩
    have HB2 := Lib.hid hb2
    have HRD := Lib.hid hrd
    have HG2 := Lib.hid hg2
    clear hb2 hrd hg2
    go_wp2_with fail
    refine (u32_any g2 (h.drop 16) 0 0 w2 HRD.out).mono ?_
    rintro e w3 ⟨rfl, hrd, hg3⟩
    rw [HST.out, HN.out]
    have HB3 : Hid (Below w.heap.size w w3) := Lib.hid (HB2.out.grown hg3 HB2.out.size (fun j hj => by have := HG2.out; have := Option.some.inj hj; omega))
    clear hrd hg3
    by_cases hbig : 40000 < N
    · have h2 : (40000 : Int) < (N : Int) := by omega
      go_wp2
      exact bodyPost_ret (v := .tuple #[.slice none 0 0, .bool false]) (by simp [results, Try.results83, go_sem]) rfl ⟨.inl ⟨by rw [HCL.out, if_pos hbig], rfl⟩, HB3.out⟩
    · have h2 : ¬ (40000 : Int) < (N : Int) := by omega
      have HSC := Lib.hid (sectors_any N w3 (by omega))
      go_wp2_with fail
      refine HSC.out.mono ?_
      rintro e w4 ⟨rfl, hw4⟩
      subst hw4
      have hsm := sects_most N (by omega)
      have hsp := sects_pos N
      obtain ⟨n, hn⟩ : ∃ n, sects N = n := ⟨_, rfl⟩
      rw [hn] at hsm hsp ⊢
      have HNS := Lib.hid hn
      clear hn
      by_cases hlen : t.length + 1 < n
      · have h3 : (t.length : Int) + 1 < (n : Int) := by omega
        go_wp2
        exact bodyPost_ret (v := .tuple #[.slice none 0 0, .bool false]) (by simp [results, Try.results83, go_sem]) rfl ⟨.inl ⟨by rw [HCL.out, if_neg hbig, if_pos (by rw [HNS.out]; exact hlen)], rfl⟩, HB3.out⟩
      · have h3 : ¬ (t.length : Int) + 1 < (n : Int) := by omega
        have h4 : (n : Int) ≤ (c : Int) := by simp only [List.length_cons] at hc; omega
        have HC := Lib.hid hc
        have HM := Lib.hid hm
        have HLN : Hid (n ≤ (h :: t).length) := Lib.hid (by simp only [List.length_cons]; omega)
        obtain ⟨i0, hi0, hz0, hz1, hz2⟩ := info_parts info5
        have HI0 := Lib.hid (And.intro hi0 (And.intro hz0 (And.intro hz1 hz2)))
        clear hc hm hlen hi0 hz0 hz1 hz2
        have hI0 : w3.ownsRow w.heap.size 5 1 (.slice none 0 0) (48 * 0) (bv (((h :: t).take 0).flatMap (List.drop 16))) ∧ Below w.heap.size w w3 := ⟨⟨by simp [bv], .inl ⟨rfl, rfl⟩⟩, HB3.out⟩
        go_wp2_with fail
        clear h1 h2 h3 h4
        go_loopw [6, 30] (fun b i wr => ∃ k : Nat, k ≤ n ∧ i = .int .i64 (k : Int) ∧ Hid (wr.ownsRow w.heap.size 5 1 b (48 * k) (bv (((h :: t).take k).flatMap (List.drop 16))) ∧ Below w.heap.size w wr)) (fun _ i _ => n - (intOf i).toNat)
        case atStart => exact ⟨0, by omega, rfl, hI0⟩
        case round =>
          obtain ⟨k, hk, rfl, HI⟩ := hrel
          clear hI0
          obtain ⟨A, cb, rfl, hfl, hcap, hcm, hnil, hbsA, hbk⟩ := own_bs HI.out.1
          by_cases hlt : k < n
          · have h1 : (k : Int) < (n : Int) := by omega
            have hkl : k < (h :: t).length := Nat.lt_of_lt_of_le hlt HLN.out
            have HFL := Lib.hid ((HS.out.below HI.out.2).at k hkl)
            have HX64 := Lib.hid ((HS.out.below HI.out.2).len64 k hkl)
            have HTK := Lib.hid (flat_take (h :: t) k hkl)
            obtain ⟨x, hx⟩ : ∃ x, (h :: t).getD k nought = x := ⟨_, rfl⟩
            rw [hx] at HFL HX64 HTK
            have HIX : Hid ((Try.prog.info? 89).map (·.size) = some (bv x).length) := (show _ = _ by rw [bv_length, HX64.out]; exact size39)
            have HLX : Hid ((bv x).length = (bv nought).length) := (show _ = _ by rw [bv_length, bv_length, HX64.out]; rfl)
            clear hx hkl
            go_wp2_with (first
              | (with_reducible refine wpList_load_row (op := ⟨some 33, _, _, _, _, _⟩) ?_ 89 (.tmp 32) ?_ gs (u * 64 + k * 64) ?_ (bv x) _ HFL.out Try.underlying89 ?_ HIX.out ?_)
              | (with_reducible refine wpList_store_whole (op := ⟨none, _, _, _, _, _⟩) ?_ 89 (.tmp 8) (.tmp 33) ?_ wr.heap.size (bv x) ?_ ?_ 89 (bv nought) ?hrow2 HLX.out bv_one HIX.out ?_))
            case hrow2 => exact Row.new wr _ (bv nought)
            all_goals try (first | rfl | (simp; done))
            intro w4 hr4 hg4
            have hs4 : wr.heap.size < w4.heap.size := hr4.lt
            have hb4 : Below wr.heap.size wr w4 := ((Below.refl _ _).alloc (Nat.le_refl _) _).grown hg4 (by simp) (fun k hk => by cases hk; exact Nat.le_refl _)
            have HR4 := Lib.hid hr4
            have HB4 := Lib.hid (HI.out.2.trans (hb4.mono HI.out.2.size))
            have HO4 : Hid (w4.ownsRow w.heap.size 5 1 (.slice A (48 * k) cb) (48 * k) (bv (((h :: t).take k).flatMap (List.drop 16)))) := Lib.hid (own_base HI.out.1 hb4)
            have HBX : Hid (Bs w4 w4.heap.size (some ⟨wr.heap.size, 16, none⟩) (x.drop 16)) := Lib.hid (by
              have := (Row.bs HR4.out HR4.out.lt).cut 16 48 (by rw [HX64.out]; decide)
              rw [List.take_of_length_le (by rw [List.length_drop, HX64.out]; decide)] at this
              simpa [Addr.add_lit] using this)
            have HSZ := Lib.hid (And.intro hs4 (And.intro HI.out.2.size (show (x.drop 16).length = 48 by rw [List.length_drop, HX64.out])))
            clear hr4 hg4 hb4 hs4
            go_wp2_with (first
              | (with_reducible refine wpList_append_bs (o := ⟨some 36, _, _, _, _, _⟩) ?_ (.tmp 34) (.tmp 35) 37 ?_ w.heap.size 5 _ (.int .u8 0) Try.underlying37 HI0.out.1 HI0.out.2.1 HI0.out.2.2.1 HI0.out.2.2.2 rfl (.slice A (48 * k) cb) (48 * k) _ ?_ HO4.out ⟨wr.heap.size, 16, none⟩ 48 48 (x.drop 16) ?_ HSZ.out.2.2 _ HBX.out ?h63 HB4.out.size ?_))
            case h63 => omega
            all_goals try (first | rfl | (simp; done))
            intro v5 w5 ho5 hg5
            rw [← bv_append, ← HTK.out, show 48 * k + 48 = 48 * (k + 1) by omega] at ho5
            have HREL : Hid (w5.ownsRow w.heap.size 5 1 v5 (48 * (k + 1)) (bv (((h :: t).take (k + 1)).flatMap (List.drop 16))) ∧ Below w.heap.size w w5) := Lib.hid ⟨ho5, HB4.out.grown hg5 HB4.out.size (fun j hj => hbk j hj)⟩
            clear ho5 hg5
            go_wp2
            go_roundw
            case rel => exact ⟨k + 1, by omega, by go_num, HREL⟩
            case measure => simp [intOf]; omega
          · have hkn : k = n := by omega
            subst hkn
            have h1 : ¬ (k : Int) < (k : Int) := by omega
            have hse : 4 + N ≤ 48 * k ∧ 0 < k := by rw [← HNS.out]; unfold sects; omega
            have g1 : (4 : Int) + (N : Int) ≤ (cb : Int) := by omega
            have g2 : (4 : Int) ≤ 4 + (N : Int) := by omega
            have g3 : IntKind.u32.wrap (4 + (N : Int)) = 4 + N := by rw [IntKind.wrap_u32]; omega
            obtain ⟨bb, oo, rfl, hbb, _⟩ := hbsA (by rw [hfl]; omega)
            have HSL : Hid (Sl wr wr.heap.size (some ⟨bb, oo + 4, none⟩) N (cb - 4) (((((h :: t).take k).flatMap (List.drop 16)).drop 4).take N)) := Lib.hid (by
              refine ⟨by rw [List.length_take, List.length_drop, hfl]; omega, by omega, by omega, fun e => (by cases e), ?_⟩
              have := hbsA.cut 4 N (by rw [hfl]; omega)
              simpa [Addr.add_lit] using this)
            have HRE := Lib.hid (show claimedM (h :: t) = some (((((h :: t).take k).flatMap (List.drop 16)).drop 4).take N) by
              rw [HCL.out, if_neg hbig, HNS.out, if_neg (by have := HLN.out; omega)])
            clear hbsA hfl
            go_wp2
            refine bodyPost_ret (v := .tuple #[.slice (some ⟨bb, oo + 4, none⟩) N (cb - 4), .bool true]) (by simp [results, Try.results83, go_sem]) rfl ⟨.inr ⟨_, some ⟨bb, oo + 4, none⟩, cb - 4, HRE.out, ?_, ?_⟩, HI.out.2⟩
            · rw [HSL.out.len]
            · rw [HSL.out.len]; exact HSL.out
end Go.Proofs.Yteemdjamgbbjhaa.Wl

/-
  What a log tells, and what no log answers.
-/
namespace Go.Proofs.Yteemdjamgbbjhaa.Wl
set_option maxRecDepth 100000
open Go.RowKit Go.Shelf Go.Proofs.Yteemdjamgbbjhaa.Wd Go.Proofs.Yteemdjamgbbjhaa.Dsk Go.Proofs.Yteemdjamgbbjhaa.Oct Go.Proofs.Yteemdjamgbbjhaa.Sum

theorem len_nil (w : World) : Calls Try.prog 23 #[.pointer none] w fun e w' => e = .returned (.int .i64 0) ∧ w = w' := by
  go_enter Try.func23, Try.ntmps23
  go_wp2
  go_ret
  exact ⟨rfl, rfl⟩
theorem turn_nil (w : World) : Calls Try.prog 25 #[.pointer none] w fun e w' => e = .returned (.int .u32 0) ∧ w = w' := by
  go_enter Try.func25, Try.ntmps25
  go_wp2
  go_ret
  exact ⟨rfl, rfl⟩
theorem broken_nil (w : World) : Calls Try.prog 26 #[.pointer none] w fun e w' => e = .returned (.bool false) ∧ w = w' := by
  go_enter Try.func26, Try.ntmps26
  go_wp2
  go_ret
  exact ⟨rfl, rfl⟩
theorem disk_nil (w : World) : Calls Try.prog 27 #[.pointer none] w fun e w' => e = .returned (.pointer none) ∧ w = w' := by
  go_enter Try.func27, Try.ntmps27
  go_wp2
  go_ret
  exact ⟨rfl, rfl⟩
theorem snapshot_nil (w : World) : Calls Try.prog 22 #[.pointer none] w fun e w' => e = .returned (.slice none 0 0) ∧ w = w' := by
  go_enter Try.func22, Try.ntmps22
  go_wp2
  go_ret
  exact ⟨rfl, rfl⟩
theorem turn_log (g dg area t n c used : Nat) (A : Option Addr) (br : Bool) (w : World) (h : Row w g 83 (wcs dg area t A n c used br)) :
    Calls Try.prog 25 #[.pointer (some ⟨g, 0, none⟩)] w fun e w' => e = .returned (.int .u32 (t : Int)) ∧ w = w' := by
  have c2 : w.cell? ⟨g, 2, none⟩ = some (.int .u32 (t : Int)) := h.cell 2
  go_enter Try.func25, Try.ntmps25
  go_wp2
  go_ret
  exact ⟨rfl, rfl⟩
theorem broken_log (g dg area t n c used : Nat) (A : Option Addr) (br : Bool) (w : World) (h : Row w g 83 (wcs dg area t A n c used br)) :
    Calls Try.prog 26 #[.pointer (some ⟨g, 0, none⟩)] w fun e w' => e = .returned (.bool br) ∧ w = w' := by
  have c5 : w.cell? ⟨g, 5, none⟩ = some (.bool br) := h.cell 5
  go_enter Try.func26, Try.ntmps26
  go_wp2
  go_ret
  exact ⟨rfl, rfl⟩
theorem disk_log (g dg area t n c used : Nat) (A : Option Addr) (br : Bool) (w : World) (h : Row w g 83 (wcs dg area t A n c used br)) :
    Calls Try.prog 27 #[.pointer (some ⟨g, 0, none⟩)] w fun e w' => e = .returned (.pointer (some ⟨dg, 0, none⟩)) ∧ w = w' := by
  have c0 : w.cell? ⟨g, 0, none⟩ = some (.pointer (some ⟨dg, 0, none⟩)) := h.cell 0
  go_enter Try.func27, Try.ntmps27
  go_wp2
  go_ret
  exact ⟨rfl, rfl⟩
theorem append_nil (A : Option Addr) (n c : Nat) (w : World) : Calls Try.prog 16 #[.pointer none, .slice A n c] w fun e w' => e = .returned (.int .i64 1) ∧ w = w' := by
  have HR := Lib.hid (refuses_nil A n c w)
  go_enter Try.func16, Try.ntmps16
  go_wp2_with fail
  refine HR.out.mono ?_
  rintro e w2 ⟨rfl, hw⟩
  subst hw
  go_wp2
  go_ret
  exact ⟨rfl, rfl⟩
theorem checkpoint_nil (A : Option Addr) (n c : Nat) (w : World) : Calls Try.prog 17 #[.pointer none, .slice A n c] w fun e w' => e = .returned (.int .i64 1) ∧ w = w' := by
  have HR := Lib.hid (refuses_nil A n c w)
  go_enter Try.func17, Try.ntmps17
  go_wp2_with fail
  refine HR.out.mono ?_
  rintro e w2 ⟨rfl, hw⟩
  subst hw
  go_wp2
  go_ret
  exact ⟨rfl, rfl⟩
end Go.Proofs.Yteemdjamgbbjhaa.Wl

/-
  Is there anything but noughts?
-/
namespace Go.Proofs.Yteemdjamgbbjhaa.Wl
set_option maxRecDepth 100000
open Go.RowKit Go.Shelf Go.Proofs.Yteemdjamgbbjhaa.Wd Go.Proofs.Yteemdjamgbbjhaa.Dsk Go.Proofs.Yteemdjamgbbjhaa.Oct Go.Proofs.Yteemdjamgbbjhaa.Sum

theorem written_any (x : List UInt8) (w : World) (hx : x.length = 64) : Calls Try.prog 85 #[.agg (bv x).toArray] w fun e w' => e = .returned (.bool (decide (x ≠ nought))) ∧ Below w.heap.size w w' := by
  have mixed : Try.prog.follows .mixedOrders = true := by kernel_rfl
  go_enter Try.func85, Try.ntmps85
  have r1 : Row (w.alloc (.cells (bv x).toArray 89)) w.heap.size 89 (bv x) := Row.new w _ _
  have hi : (Try.prog.info? 89).map (·.size) = some (bv x).length := (show _ = _ by rw [bv_length, hx]; exact size39)
  go_wp2_with (first
    | (with_reducible refine wpList_load_row (op := ⟨some 3, _, _, _, _, _⟩) ?_ 89 (.tmp 1) ?_ w.heap.size 0 ?_ (bv x) _ (Row.all r1) Try.underlying89 ?_ hi ?_)
    | (with_reducible refine wpList_neq_blk (o := ⟨some 5, _, _, _, _, _⟩) ?_ (.tmp 3) (.tmp 4) ?_ x nought ?_ ?_ hx rfl ?_))
  all_goals try (first | rfl | (simp; done))
  go_wp2_with fail
  go_ret
  exact ⟨ret_bool (by simp), (Below.refl _ _).alloc (Nat.le_refl _) _⟩
/-- what IndexFunc answers -/
def Ix (w w' : World) (L : List (List UInt8)) (e : Ending) : Prop := (∃ v : Int, e = .returned (.int .i64 v) ∧ (0 ≤ v ↔ ∃ x ∈ L, x ≠ nought)) ∧ Below w.heap.size w w'
set_option maxHeartbeats 4000000 in
theorem index_any (gs u c : Nat) (L : List (List UInt8)) (w : World) (hs : Sect w gs u L) (hc : L.length ≤ c) (hm : L.length ≤ 1000) :
    Calls Try.prog 98 #[.slice (some ⟨gs, u * 64, none⟩) L.length c, .func (.func 85) #[] #[]] w fun e w' => Ix w w' L e := by
  have mixed : Try.prog.follows .mixedOrders = true := by kernel_rfl
  have HS := Lib.hid hs
  clear hs
  go_enter Try.func98, Try.ntmps98
  go_wp2_with fail
  have hI0 : (∀ j, j < 0 → L.getD j nought = nought) ∧ Below w.heap.size w w := ⟨fun j h => by omega, Below.refl _ _⟩
  go_loopw [4, 8] (fun r i wr => ∃ k : Nat, k ≤ L.length ∧ i = .int .i64 (k : Int) ∧ r = .int .i64 0 ∧ Hid ((∀ j, j < k → L.getD j nought = nought) ∧ Below w.heap.size w wr)) (fun _ i _ => L.length - (intOf i).toNat)
  case atStart => exact ⟨0, by omega, rfl, rfl, hI0⟩
  case round =>
    obtain ⟨k, hk, rfl, rfl, HI⟩ := hrel
    clear hI0
    by_cases hlt : k < L.length
    · have h1 : (k : Int) < (L.length : Int) := by omega
      have HFL := Lib.hid ((HS.out.below HI.out.2).at k hlt)
      have HX64 := Lib.hid ((HS.out.below HI.out.2).len64 k hlt)
      have hmem : L.getD k nought ∈ L := by
        rw [List.getD_eq_getElem?_getD, List.getElem?_eq_getElem hlt]
        exact List.getElem_mem _
      obtain ⟨x, hx⟩ : ∃ x, L.getD k nought = x := ⟨_, rfl⟩
      rw [hx] at HFL HX64 hmem
      have HXE := Lib.hid hx
      have HMEM := Lib.hid hmem
      have HIX : Hid ((Try.prog.info? 89).map (·.size) = some (bv x).length) := (show _ = _ by rw [bv_length, HX64.out]; exact size39)
      clear hx hmem
      go_wp2_with (first
        | (with_reducible refine wpList_load_row (op := ⟨some 15, _, _, _, _, _⟩) ?_ 89 (.tmp 14) ?_ gs (u * 64 + k * 64) ?_ (bv x) _ HFL.out Try.underlying89 ?_ HIX.out ?_))
      all_goals try (first | rfl | (simp; done))
      go_wp2_with fail
      refine (written_any x wr HX64.out).mono ?_
      rintro e w2 ⟨rfl, hb2⟩
      have HB2 := Lib.hid (HI.out.2.trans (hb2.mono HI.out.2.size))
      clear hb2
      by_cases hz : x = nought
      · have HJ : Hid ((∀ j, j < k + 1 → L.getD j nought = nought) ∧ Below w.heap.size w w2) := Lib.hid ⟨fun j hj => by
          rcases Nat.lt_succ_iff_lt_or_eq.1 hj with h | h
          · exact HI.out.1 j h
          · rw [h, HXE.out, hz], HB2.out⟩
        rw [show decide (x ≠ nought) = false by simp [hz]]
        clear hz
        go_wp2
        go_roundw
        case rel => exact ⟨k + 1, by omega, by go_num, rfl, HJ⟩
        case measure => simp [intOf]; omega
      · have HZ := Lib.hid hz
        rw [show decide (x ≠ nought) = true by simp [hz]]
        clear hz
        go_wp2
        go_ret
        exact ⟨⟨_, rfl, ⟨fun _ => ⟨x, HMEM.out, HZ.out⟩, fun _ => by omega⟩⟩, HB2.out⟩
    · have hkl : k = L.length := by omega
      have h1 : ¬ (k : Int) < (L.length : Int) := by omega
      go_wp2
      go_ret
      refine ⟨⟨_, rfl, ⟨fun h => absurd h (by decide), fun ⟨x, hx, hz⟩ => ?_⟩⟩, HI.out.2⟩
      obtain ⟨j, hj, he⟩ := List.mem_iff_getElem.1 hx
      have := HI.out.1 j (by omega)
      rw [List.getD_eq_getElem?_getD, List.getElem?_eq_getElem hj] at this
      exact absurd (he.symm.trans this) hz
theorem contains_any (gs u c : Nat) (L : List (List UInt8)) (w : World) (hs : Sect w gs u L) (hc : L.length ≤ c) (hm : L.length ≤ 1000) :
    Calls Try.prog 84 #[.slice (some ⟨gs, u * 64, none⟩) L.length c, .func (.func 85) #[] #[]] w fun e w' => (∃ r, e = .returned (.bool r) ∧ (r = true ↔ ∃ x ∈ L, x ≠ nought)) ∧ Below w.heap.size w w' := by
  have mixed : Try.prog.follows .mixedOrders = true := by kernel_rfl
  have HX := Lib.hid (index_any gs u c L w hs hc hm)
  go_enter Try.func84, Try.ntmps84
  go_wp2_with fail
  refine HX.out.mono ?_
  rintro e w2 ⟨⟨v, rfl, hv⟩, hb⟩
  go_wp2
  go_ret
  exact ⟨⟨decide (0 ≤ v), ret_bool (by simp only [decide_eq_decide]; exact (by simpa using hv.symm)), by simpa using hv⟩, hb⟩
end Go.Proofs.Yteemdjamgbbjhaa.Wl

/-
  Marks of loops over functions, one behind the other, are taken.
-/
namespace Go.Proofs.Yteemdjamgbbjhaa.Wl
set_option maxRecDepth 100000
open Go.RowKit Go.Shelf Go.Proofs.Yteemdjamgbbjhaa.Wd Go.Proofs.Yteemdjamgbbjhaa.Dsk Go.Proofs.Yteemdjamgbbjhaa.Oct Go.Proofs.Yteemdjamgbbjhaa.Sum

/-- the marks that loops over functions left, the newest ahead -/
def marksOf (Ds : List Nat) : List Deferred := Ds.map fun D => { target := .collected D, args := #[] }
structure Mks (base : Nat) (Ds : List Nat) (W : World) : Prop where
  nodup : Ds.Nodup
  open_ : ∀ D ∈ Ds, base ≤ D ∧ W.heap[D]? = some (.deferred (some []))
theorem Mks.nil (base : Nat) (W : World) : Mks base [] W := ⟨List.nodup_nil, fun _ h => by simp at h⟩
theorem Mks.kept {base : Nat} {Ds : List Nat} {W W' : World} (h : Mks base Ds W) (hk : ∀ k o, W.heap[k]? = some o → o.isCells = false → base ≤ k → W'.heap[k]? = some o) : Mks base Ds W' :=
  ⟨h.nodup, fun D hD => ⟨(h.open_ D hD).1, hk D _ (h.open_ D hD).2 rfl (h.open_ D hD).1⟩⟩
theorem Mks.cons {base D : Nat} {Ds : List Nat} {W : World} (h : Mks base Ds W) (hb : base ≤ D) (hD : W.heap[D]? = some (.deferred (some []))) (hn : D ∉ Ds) : Mks base (D :: Ds) W :=
  ⟨List.nodup_cons.2 ⟨hn, h.nodup⟩, fun E hE => by
    rcases List.mem_cons.1 hE with rfl | hE
    · exact ⟨hb, hD⟩
    · exact h.open_ E hE⟩
theorem leaves_marks {F : Fence} {n : Nat} {P : Program} {fn : Func} {tmps : Array Value} {R : Ending → World → Prop} {base : Nat} {J : World → Prop}
    (hJ : ∀ (X Y : World) (row : Option Nat), J X → X.grownBy Y row → (∀ r, row = some r → base ≤ r ∧ ∃ o : Obj, X.heap[r]? = some o ∧ o.isCells = false) → J Y)
    (hend : ∀ W, J W → ∃ v, (results fn tmps).run P W = .ok v W ∧ R (.returned v) W) :
    ∀ (Ds : List Nat) (W : World), Mks base Ds W → J W → LeavesInM F n P fn tmps R (marksOf Ds) .returning W := by
  intro Ds
  induction Ds with
  | nil => intro W _ hW; exact hend W hW
  | cons D Ds ih =>
    intro W hM hW
    obtain ⟨hb, hK⟩ := hM.open_ D (by simp)
    refine ⟨by simp, .inl ⟨D, _, rfl, run_takeDeferred hK, ?_⟩⟩
    have hnd := List.nodup_cons.1 hM.nodup
    refine ih _ ⟨hnd.2, fun E hE => ⟨(hM.open_ E (by simp [hE])).1, ?_⟩⟩ (hJ _ _ _ hW (grownBy_putObj' W D (.deferred none)) (fun r e => by cases e; exact ⟨hb, _, hK, rfl⟩))
    have hne : E ≠ D := fun e => hnd.1 (e ▸ hE)
    exact (World.putObj_heap_other hne).trans (hM.open_ E (by simp [hE])).2
end Go.Proofs.Yteemdjamgbbjhaa.Wl

/-
  No disk; the snapshot; the frames as they stand.
-/
namespace Go.Proofs.Yteemdjamgbbjhaa.Wl
set_option maxRecDepth 100000
open Go.RowKit Go.Shelf Go.Proofs.Yteemdjamgbbjhaa.Wd Go.Proofs.Yteemdjamgbbjhaa.Dsk Go.Proofs.Yteemdjamgbbjhaa.Oct Go.Proofs.Yteemdjamgbbjhaa.Sum

theorem open_nil (w : World) : Calls Try.prog 20 #[.pointer none] w fun e w' => e = .returned (.tuple #[.pointer none, .int .i64 1]) ∧ Below w.heap.size w w' := by
  have mixed : Try.prog.follows .mixedOrders = true := by kernel_rfl
  go_enter Try.func20, Try.ntmps20
  go_wp2_with fail
  exact bodyPost_ret (v := .tuple #[.pointer none, .int .i64 1]) (by simp [results, Try.results20, go_sem]) rfl ⟨rfl, Below.refl _ _⟩
theorem format_nil (area : Int) (w : World) : Calls Try.prog 13 #[.pointer none, .int .i64 area] w fun e w' => e = .returned (.tuple #[.pointer none, .int .i64 1]) ∧ Below w.heap.size w w' := by
  have mixed : Try.prog.follows .mixedOrders = true := by kernel_rfl
  go_enter Try.func13, Try.ntmps13
  go_wp2_with fail
  exact bodyPost_ret (v := .tuple #[.pointer none, .int .i64 1]) (by simp [results, Try.results13, go_sem]) rfl ⟨rfl, Below.refl _ _⟩
theorem snapshot_log (g dg area t n c used : Nat) (A : Option Addr) (br : Bool) (xs : List Value) (A0 : Option Addr) (m c0 : Nat) (b : List UInt8) (w : World) (h : Row w g 83 (wcs dg area t A (n + 1) c used br))
    (ho : w.ownsRow 0 37 1 (.slice A (n + 1) c) (n + 1) xs) (hx : xs[0]? = some (.slice A0 m c0)) (hb : By w A0 m c0 b) (hm : m ≤ 40000) :
    Calls Try.prog 22 #[.pointer (some ⟨g, 0, none⟩)] w (MadeSl w m b) := by
  have c3 : w.cell? ⟨g, 3, none⟩ = some (.slice A (n + 1) c) := h.cell 3
  obtain ⟨gx, rfl, hc0⟩ : ∃ gx, A = some ⟨gx, 0, none⟩ ∧ w.cell? ⟨gx, 0, none⟩ = some (.slice A0 m c0) := by
    rcases ho with ⟨hl, hv | ⟨gx, cap, cur, hv, _, hg, h1, h2, h3, h4⟩⟩
    · cases hv.2
    · cases hv
      refine ⟨gx, rfl, ?_⟩
      rw [cell_of_row w gx 0 cur _ (0, 0) hg]
      rw [← h4, List.getElem?_take_of_lt (by omega)] at hx
      simpa using hx
  have HC := Lib.hid (clone_any A0 b c0 m w hb.sl (by omega))
  go_enter Try.func22, Try.ntmps22
  go_wp2_with fail
  refine HC.out.mono ?_
  rintro e w2 ⟨A2, c2, rfl, h1, h2, h3⟩
  go_wp2
  go_ret
  exact ⟨A2, c2, rfl, h1, h2, h3⟩
end Go.Proofs.Yteemdjamgbbjhaa.Wl
