/-
  Slices of records of one's own; the law's all.
-/
import Derived.Test.YtnljhopikjkflaaAppP
import Derived.Test.YtnljhopikjkflaaRec12
import Derived.Test.YtnljhopikjkflaaRec13
import Derived.Deep.Cut
import Derived.Deep.CutRange
import Derived.Great.BuildSlice
import Derived.Deep.SlicePairs
namespace Go.Proofs.Ytnljhopikjkflaa.Rec
set_option maxRecDepth 100000
open Go.RowKit Go.Proofs.Ytnljhopikjkflaa.Wd Go.Proofs.Ytnljhopikjkflaa.Oct Go.Proofs.Ytnljhopikjkflaa.Dsk

def N8 (c : Value) : Prop := ∀ z, c ≠ .int .u8 z
/-- the cells of records -/
def fl (ys : List (RM × RS)) : List Value := ys.flatMap fun y => rcs y.1 y.2
theorem fl_len (ys : List (RM × RS)) : (fl ys).length = ys.length * 9 := by
  induction ys with
  | nil => rfl
  | cons y t ih =>
    have : (fl (y :: t)) = rcs y.1 y.2 ++ fl t := rfl
    rw [this, List.length_append, ih, List.length_cons]
    have : (rcs y.1 y.2).length = 9 := rfl
    omega
theorem fl_snoc (ys : List (RM × RS)) (r : RM) (s : RS) : fl (ys ++ [(r, s)]) = fl ys ++ rcs r s := by simp [fl]
theorem fl_at : ∀ {ys : List (RM × RS)} {i : Nat} {y : RM × RS}, ys[i]? = some y → ∀ {j : Nat} {u : Value}, (rcs y.1 y.2)[j]? = some u → (fl ys)[i * 9 + j]? = some u
  | [], i, y, h, j, u, hj => by cases h
  | a :: t, i, y, h, j, u, hj => by
    have e : (fl (a :: t)) = rcs a.1 a.2 ++ fl t := rfl
    have l9 : (rcs a.1 a.2).length = 9 := rfl
    rw [e]
    match i, h with
    | 0, h =>
      cases h
      have hj9 := (List.getElem?_eq_some_iff.1 hj).1
      rw [List.getElem?_append_left (by omega)]
      rw [Nat.zero_mul, Nat.zero_add]
      exact hj
    | i + 1, h =>
      rw [List.getElem?_append_right (by omega), l9, show (i + 1) * 9 + j - 9 = i * 9 + j by omega]
      exact fl_at (ys := t) (by simpa using h) hj
/-- a slice of records of one's own -/
structure Rs (W : World) (base : Nat) (v : Value) (ys : List (RM × RS)) : Prop where
  own : W.ownsRow base 34 9 v ys.length (fl ys)
  at_ : ∀ y ∈ ys, RecAt W W.heap.size y.1 y.2
  no8 : AllP N8 W v
theorem Rs.nil (W : World) (base : Nat) : Rs W base (.slice none 0 0) [] := ⟨World.ownsRow_nil _ _ _ _, (fun y hy => by cases hy), AllP.nil _ _⟩
theorem Rs.below {W W' : World} {base : Nat} {v : Value} {ys : List (RM × RS)} (h : Rs W base v ys) (hb : Below W.heap.size W W') : Rs W' base v ys :=
  ⟨World.ownsRow.kept (row := none) h.own ⟨hb.os, hb.tape, hb.output, hb.size, fun k hk _ => hb.block k hk⟩ (by cases v.ownBlock <;> simp), fun y hy => ((h.at_ y hy).below hb).more hb.size, h.no8.below hb⟩
theorem Rs.mono {W : World} {base base' : Nat} {v : Value} {ys : List (RM × RS)} (h : Rs W base v ys) (hb : base' ≤ base) : Rs W base' v ys := ⟨World.ownsRow.mono h.own hb, h.at_, h.no8⟩
theorem Rs.rl {W : World} {base : Nat} {v : Value} {ys : List (RM × RS)} (h : Rs W base v ys) : ∃ A c, v = .slice A ys.length c ∧ ys.length ≤ c ∧ c ≤ maxLen ∧ (A = none → c = 0) ∧ Rl W W.heap.size A ys := by
  rcases h.own.2 with ⟨rfl, h0⟩ | ⟨g, cap, cur, rfl, hb, hg, hnc, hcm, hs, ht⟩
  · rw [h0]
    exact ⟨none, 0, rfl, Nat.le_refl _, Nat.zero_le _, fun _ => rfl, fun hp => by omega, h.at_⟩
  · refine ⟨_, cap, rfl, hnc, hcm, (fun e => by cases e), fun _ => ⟨g, 0, rfl, (Array.getElem?_eq_some_iff.1 hg).1, fun i y hi j u hj => ?_⟩, h.at_⟩
    have hi9 : i < ys.length := (List.getElem?_eq_some_iff.1 hi).1
    have hj9 : j < 9 := (List.getElem?_eq_some_iff.1 hj).1
    have hc := World.ownsRow.cellAt h.own (i * 9 + j) (by omega)
    rw [show 0 + i * 9 + j = i * 9 + j by omega, hc]
    exact fl_at hi hj
theorem Bs.far8 {w w' : World} {B : Nat} {A : Option Addr} {l : List UInt8} {v : Value} (h : Bs w B A l) (hB : B ≤ w.heap.size) (hp : AllP N8 w v) (hg : w.grownBy w' v.ownBlock) : Bs w' B A l := by
  intro hpos
  obtain ⟨b, o, e, hlt, hc⟩ := h hpos
  have hne : some b ≠ v.ownBlock := fun e2 => by
    obtain ⟨cur, t, h1, h2⟩ := hp b e2.symm
    have h3 := hc 0 hpos
    rw [Nat.add_zero, cell_of_row w b o cur t (0, 0) h1] at h3
    obtain ⟨h4, h5⟩ := Array.getElem?_eq_some_iff.1 h3
    exact h2 _ (by rw [← h5]; simp) _ rfl
  exact ⟨b, o, e, hlt, fun i hi => (World.cell?_of_block (w := w) (a := ⟨b, o + i, none⟩) (hg.block b (by omega) hne)).trans (hc i hi)⟩
theorem RecAt.far8 {w w' : World} {B : Nat} {r : RM} {s : RS} {v : Value} (h : RecAt w B r s) (hB : B ≤ w.heap.size) (hp : AllP N8 w v) (hg : w.grownBy w' v.ownBlock) : RecAt w' B r s :=
  ⟨h.lo, h.ln, h.mo, h.mn, Bs.far8 h.bo hB hp hg, Bs.far8 h.bn hB hp hg, h.ao, h.an⟩
theorem info_rec : (Try.prog.info? 34).map (fun i => (i.zero, i.size, i.bytes)) = some (some (.agg (rcs zeroR zeroS).toArray), 9, 104) := by kernel_rfl
theorem Rs.push {w w' : World} {base : Nat} {v v' : Value} {ys : List (RM × RS)} {r : RM} {s : RS} (h : Rs w base v ys) (hr : RecAt w w.heap.size r s) (h2 : w'.ownsRow base 34 9 v' (ys.length + 1) (fl ys ++ rcs r s)) (hg : w.grownBy w' v.ownBlock) (h4 : AllP N8 w' v') :
    Rs w' base v' (ys ++ [(r, s)]) :=
  ⟨by rw [fl_snoc, List.length_append]; exact h2, fun y hy => by
    rcases List.mem_append.1 hy with hy | hy
    · exact ((h.at_ y hy).far8 (Nat.le_refl _) h.no8 hg).more hg.size
    · rw [List.mem_singleton] at hy
      subst hy
      exact (hr.far8 (Nat.le_refl _) h.no8 hg).more hg.size, h4⟩
/-- one record more -/
theorem wpList_append_rec {w : World} {ops : Array Oper} {rest : List Oper} {o : Oper} {a : Act} {Q : Exit → Act → World → Prop} (hgd : Region.wanted o (yielded ops a.tmps) = true) (s x : Operand)
    (ho : o.op = .call { callee := .builtin .append, args := #[s, x], argTypes := #[22, 22] })
    (base : Nat) (v : Value) (ys : List (RM × RS)) (hs : a.eval s = v) (h : Rs w base v ys) (ad : Addr) (c : Nat) (r : RM) (t : RS) (hx : a.eval x = .slice (some ad) 1 c) (hcs : ∀ j u, (rcs r t)[j]? = some u → w.cell? (ad.add j) = some u) (hr : RecAt w w.heap.size r t)
    (hn : ys.length ≤ 100000) (hbase : base ≤ w.heap.size)
    (hK : ∀ v' w', Rs w' base v' (ys ++ [(r, t)]) → w.grownBy w' v.ownBlock → Below base w w' → wpList Try.prog ops Q rest (a.put o.dst v') w') : wpList Try.prog ops Q (o :: rest) a w := by
  obtain ⟨i, hi, hz, hz1, hz2⟩ := info_parts info_rec
  refine wpList_append_p hgd N8 s x 22 ho base 34 i _ 9 104 Try.underlying22 hi hz hz1 hz2 rfl (by omega) v ys.length (fl ys) hs h.own ad 1 c (rcs r t) hx rfl hcs rcs_one (by unfold maxLen; omega) (by omega) hbase (by omega) ?_ (fun u hu => rcs_no8 u hu) h.no8 ?_
  · intro c hc
    exact rcs_no8 (r := zeroR) (s := zeroS) c (by simpa [Value.cells] using hc)
  · intro v' w' h2 h3 h4 h5
    exact hK v' w' (h.push hr h2 h3 h5) h3 (below_own h3 (fun k hk => (World.ownsRow.lt h.own k hk).1) hbase)
theorem wpList_build1 {P : Program} {ops : Array Oper} {rest : List Oper} {o : Oper} {a : Act} {w : World} {Q : Exit → Act → World → Prop} (hgd : o.guard = none) (t e : TypeId) (x : Operand) (ho : o.op = .buildSlice t 1 #[(0, x)])
    (vs zs : List Value) (ie : TypeInfo) (hx : a.eval x = .agg vs.toArray) (hu : P.underlying t = some (.slice e)) (hie : P.info? e = some ie) (hz : ie.zero = some (.agg zs.toArray)) (hs : ie.size = zs.length) (hl : vs.length = zs.length) (hpos : 0 < zs.length) (hn : zs.length ≤ 1000)
    (h : wpList P ops Q rest (a.put o.dst (.slice (some ⟨w.heap.size, 0, none⟩) 1 1)) (w.alloc (.cells vs.toArray e))) : wpList P ops Q (o :: rest) a w :=
  wpList_plain hgd fun _ hK => wp_buildOne t e x ho vs zs ie hx hu hie hz hs hl hpos hn (hK _ _ h)
def AllOut (w : World) (rs : List RM) (e : Ending) (w' : World) : Prop := ∃ v ys, e = .returned v ∧ Rs w' w.heap.size v ys ∧ ys.map (·.1) = rs ∧ Below w.heap.size w w'
/-- what the rounds hold -/
structure AI (w : World) (rs : List RM) (k : Nat) (v : Value) (ys : List (RM × RS)) (W : World) : Prop where
  r : Rs W w.heap.size v ys
  e : ys.map (·.1) = rs.take k
  hb : Below w.heap.size w W

set_option maxHeartbeats 4000000 in
theorem all_any (A : Option Addr) (n c : Nat) (xs : List (RM × RS)) (w : World) (hn : xs.length = n) (hm : n ≤ 100000) (hR : Rl w w.heap.size A xs) (hs : ∀ x ∈ xs, x.2.no ≤ 2000 ∧ x.2.nn ≤ 2000) :
    Calls Try.prog 10 #[.slice A n c] w (AllOut w (xs.map (·.1))) := by
  obtain ⟨iR, hiR, hzR, hsR, hbR⟩ := info_parts info_rec
  have HN := Lib.hid hn
  have HR := Lib.hid hR
  have HS := Lib.hid hs
  have HLN : Hid ((xs.map (·.1)).length = n) := (show _ = _ by rw [List.length_map, hn])
  clear hn hR hs
  go_enter Try.func10, Try.ntmps10
  go_wp2
  have HI0 : Hid (AI w (xs.map (·.1)) 0 (.slice none 0 0) [] w) := ⟨Rs.nil _ _, rfl, Below.refl _ _⟩
  go_loopw [3, 8] (fun t3 t8 wr => ∃ (k : Nat) (v : Value) (ys : List (RM × RS)), k ≤ n ∧ t3 = v ∧ t8 = .int .i64 (k : Int) ∧ Hid (AI w (xs.map (·.1)) k v ys wr)) (fun _ t8 _ => n - (intOf t8).toNat)
  case atStart => exact ⟨0, _, _, by omega, rfl, rfl, HI0⟩
  case round =>
    obtain ⟨k, v, ys, hk, rfl, rfl, HI⟩ := hrel
    clear HI0
    by_cases hlt : k < n
    case neg =>
      have h1 : ¬ (k : Int) < (n : Int) := by omega
      obtain rfl : k = n := by omega
      have HE : Hid (ys.map (·.1) = xs.map (·.1)) := (show _ = _ by rw [HI.out.e, List.take_of_length_le (by rw [HLN.out]; exact Nat.le_refl _)])
      go_wp2
      go_ret
      exact ⟨_, ys, rfl, HI.out.r, HE.out, HI.out.hb⟩
    have h1 : (k : Int) < (n : Int) := by omega
    obtain ⟨x, hx⟩ : ∃ x, xs[k]? = some x := ⟨_, List.getElem?_eq_getElem (by rw [HN.out]; exact hlt)⟩
    obtain ⟨b, o, rfl, hblt, hc⟩ := HR.out.1 (by rw [HN.out]; omega)
    have HC : Hid (wr.rangeAt b (o + k * 9) [.int .u64 (x.1.lsn : Int), .int .i64 x.1.kind, .int .u64 (x.1.txn : Int), .int .u64 (x.1.back : Int), .int .i64 x.1.page, .int .i64 x.1.slot, .slice x.2.Ao x.2.no x.2.co, .slice x.2.An x.2.nn x.2.cn, .int .u64 (x.1.next : Int)]) := fun j v hj => (HI.out.hb.cell (p := ⟨b, o + k * 9 + j, none⟩) hblt).trans (hc k x hx j v hj)
    have HIN := Lib.hid (show (Try.prog.info? 34).map (·.size) = some ([.int .u64 (x.1.lsn : Int), .int .i64 x.1.kind, .int .u64 (x.1.txn : Int), .int .u64 (x.1.back : Int), .int .i64 x.1.page, .int .i64 x.1.slot, .slice x.2.Ao x.2.no x.2.co, .slice x.2.An x.2.nn x.2.cn, .int .u64 (x.1.next : Int)] : List Value).length from rec_info)
    have HRX := Lib.hid (HR.out.2 x (List.mem_of_getElem? hx))
    have HSX := Lib.hid (HS.out x (List.mem_of_getElem? hx))
    have HTS : Hid ((xs.map (·.1)).take (k + 1) = (xs.map (·.1)).take k ++ [x.1]) := (show _ = _ by
      rw [List.take_succ_eq_append_getElem (by rw [HLN.out]; exact hlt)]
      congr 2
      simp [(List.getElem?_eq_some_iff.1 hx).2])
    clear hc hx
    obtain ⟨r, s⟩ := x
    dsimp only at HC HIN HRX HSX HTS
    go_upto_region 5 with (with_reducible refine wpList_load_row (op := ⟨some 11, _, _, _, _, _⟩) ?_ 34 (.tmp 10) ?_ b (o + k * 9) ?_ [.int .u64 (r.lsn : Int), .int .i64 r.kind, .int .u64 (r.txn : Int), .int .u64 (r.back : Int), .int .i64 r.page, .int .i64 r.slot, .slice s.Ao s.no s.co, .slice s.An s.nn s.cn, .int .u64 (r.next : Int)] _ HC.out Try.underlying34 ?_ HIN.out ?_)
    all_goals try (first | rfl | (simp; done))
    have RX8 : Hid (Row (wr.alloc (.cells #[.int .u64 (r.lsn : Int), .int .i64 r.kind, .int .u64 (r.txn : Int), .int .u64 (r.back : Int), .int .i64 r.page, .int .i64 r.slot, .slice s.Ao s.no s.co, .slice s.An s.nn s.cn, .int .u64 (r.next : Int)] 34)) wr.heap.size 34 (rcs r s)) := Row.new wr _ _
    have HI8 : Hid (AI w (xs.map (·.1)) k u3 ys (wr.alloc (.cells #[.int .u64 (r.lsn : Int), .int .i64 r.kind, .int .u64 (r.txn : Int), .int .u64 (r.back : Int), .int .i64 r.page, .int .i64 r.slot, .slice s.Ao s.no s.co, .slice s.An s.nn s.cn, .int .u64 (r.next : Int)] 34))) := ⟨HI.out.r.below ((Below.refl _ _).alloc (Nat.le_refl _) _), HI.out.e, HI.out.hb.alloc HI.out.hb.size _⟩
    generalize wr.alloc (.cells #[.int .u64 (r.lsn : Int), .int .i64 r.kind, .int .u64 (r.txn : Int), .int .u64 (r.back : Int), .int .i64 r.page, .int .i64 r.slot, .slice s.Ao s.no s.co, .slice s.An s.nn s.cn, .int .u64 (r.next : Int)] 34) = w8 at RX8 HI8 ⊢
    generalize wr.heap.size = P8 at RX8 ⊢
    clear HI HC HIN
    have HCO := Lib.hid (copied_any r s w8 ((HRX.out.below HI8.out.hb).more HI8.out.hb.size) HSX.out)
    unfold rcs at HCO
    have ha0 : w8.cell? ⟨P8, 0, none⟩ = some (.int .u64 (r.lsn : Int)) := RX8.out.cell 0
    have ha1 : w8.cell? ⟨P8, 1, none⟩ = some (.int .i64 r.kind) := RX8.out.cell 1
    have ha2 : w8.cell? ⟨P8, 2, none⟩ = some (.int .u64 (r.txn : Int)) := RX8.out.cell 2
    have ha3 : w8.cell? ⟨P8, 3, none⟩ = some (.int .u64 (r.back : Int)) := RX8.out.cell 3
    have ha4 : w8.cell? ⟨P8, 4, none⟩ = some (.int .i64 r.page) := RX8.out.cell 4
    have ha5 : w8.cell? ⟨P8, 5, none⟩ = some (.int .i64 r.slot) := RX8.out.cell 5
    have ha6 : w8.cell? ⟨P8, 6, none⟩ = some (.slice s.Ao s.no s.co) := RX8.out.cell 6
    have ha7 : w8.cell? ⟨P8, 7, none⟩ = some (.slice s.An s.nn s.cn) := RX8.out.cell 7
    have ha8 : w8.cell? ⟨P8, 8, none⟩ = some (.int .u64 (r.next : Int)) := RX8.out.cell 8
    go_wp2_with fail
    refine HCO.out.mono ?_
    rintro e w9 ⟨s2, rfl, hr9, hb9⟩
    have HI9 : Hid (AI w (xs.map (·.1)) k u3 ys w9) := ⟨HI8.out.r.below hb9, HI8.out.e, HI8.out.hb.trans (hb9.mono HI8.out.hb.size)⟩
    have HR9 := Lib.hid hr9
    clear hr9 hb9 HCO HI8 RX8 ha0 ha1 ha2 ha3 ha4 ha5 ha6 ha7 ha8
    have hwa : Below w9.heap.size w9 (w9.alloc (.cells #[.int .u64 (r.lsn : Int), .int .i64 r.kind, .int .u64 (r.txn : Int), .int .u64 (r.back : Int), .int .i64 r.page, .int .i64 r.slot, .slice s2.Ao s2.no s2.co, .slice s2.An s2.nn s2.cn, .int .u64 (r.next : Int)] 34)) := (Below.refl _ _).alloc (Nat.le_refl _) _
    have HI10 : Hid (AI w (xs.map (·.1)) k u3 ys (w9.alloc (.cells #[.int .u64 (r.lsn : Int), .int .i64 r.kind, .int .u64 (r.txn : Int), .int .u64 (r.back : Int), .int .i64 r.page, .int .i64 r.slot, .slice s2.Ao s2.no s2.co, .slice s2.An s2.nn s2.cn, .int .u64 (r.next : Int)] 34))) := ⟨HI9.out.r.below hwa, HI9.out.e, HI9.out.hb.trans (hwa.mono HI9.out.hb.size)⟩
    have HR10 := Lib.hid ((HR9.out.below hwa).more hwa.size)
    have HCL : Hid (∀ j u, (rcs r s2)[j]? = some u → (w9.alloc (.cells #[.int .u64 (r.lsn : Int), .int .i64 r.kind, .int .u64 (r.txn : Int), .int .u64 (r.back : Int), .int .i64 r.page, .int .i64 r.slot, .slice s2.Ao s2.no s2.co, .slice s2.An s2.nn s2.cn, .int .u64 (r.next : Int)] 34)).cell? ((⟨w9.heap.size, 0, none⟩ : Addr).add j) = some u) := (show ∀ j u, _ → _ from fun j u hu => by
      rw [Addr.add_lit, Nat.zero_add]
      exact ((Row.new w9 34 (rcs r s2)).cell j).trans hu)
    have HYL : Hid (ys.length ≤ 100000) := (show _ ≤ _ from by
      have := congrArg List.length HI10.out.e
      rw [List.length_map, List.length_take] at this
      omega)
    have HSZ := Lib.hid HI10.out.hb.size
    have HPR := Lib.hid HI10.out.r
    have HPE := Lib.hid HI10.out.e
    have HPB := Lib.hid HI10.out.hb
    clear HI9 HI10 HR9 hwa
    go_wp2_with (first
      | (with_reducible refine wpList_build1 (o := ⟨some 15, _, _, _, _, _⟩) rfl 22 34 (.tmp 14) rfl [.int .u64 (r.lsn : Int), .int .i64 r.kind, .int .u64 (r.txn : Int), .int .u64 (r.back : Int), .int .i64 r.page, .int .i64 r.slot, .slice s2.Ao s2.no s2.co, .slice s2.An s2.nn s2.cn, .int .u64 (r.next : Int)] (rcs zeroR zeroS) iR ?_ Try.underlying22 hiR hzR hsR rfl (by decide) (by decide) ?_)
      | (at_builtin; (refine wpList_append_rec (o := ⟨some 16, _, _, _, _, _⟩) rfl (.tmp 12) (.tmp 15) rfl w.heap.size u3 ys rfl HPR.out ⟨w9.heap.size, 0, none⟩ 1 r s2 rfl HCL.out HR10.out HYL.out HSZ.out ?_; intro v11 w11 hp11 hg11 hb11)))
    all_goals try (first | rfl | (simp; done))
    have HN11 : Hid (AI w (xs.map (·.1)) (k + 1) v11 (ys ++ [(r, s2)]) w11) := ⟨hp11, by rw [List.map_append, HPE.out, HTS.out]; rfl, HPB.out.trans hb11⟩
    clear hp11 hg11 hb11 HPR HPE HPB HCL HR10
    go_wp2
    go_roundw
    case rel => exact ⟨k + 1, v11, _, by omega, rfl, by go_num, HN11⟩
    case measure => simp [intOf]; omega
end Go.Proofs.Ytnljhopikjkflaa.Rec
