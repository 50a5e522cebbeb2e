/-
  Decode.
-/
import Derived.Test.YtnljhopikjkflaaDoorPgE
namespace Go.Proofs.YtnljhopikjkflaaDoor.Pg
set_option maxRecDepth 100000
open Go.RowKit Go.Proofs.YtnljhopikjkflaaDoor.Wd Go.Proofs.YtnljhopikjkflaaDoor.Oct Go.Proofs.YtnljhopikjkflaaDoor.Dsk Go.Proofs.YtnljhopikjkflaaDoor.Rec Go.Proofs.YtnljhopikjkflaaDoor.Sum Go.Proofs.YtnljhopikjkflaaDoor.Sm

theorem res_cell_tmp {P : Program} {fn : Func} {p q : Tmp} {ty : TypeId} (h : fn.results = #[.cell p ty, .tmp q]) (tmps : Array Value) (w : World) (a : Addr) (v u : Value) (hp : tmps.getD p undef = .pointer (some a)) (hl : (loadVar ty a).run P w = .ok v w) (hq : tmps.getD q undef = u) :
    (results fn tmps).run P w = .ok (.tuple #[v, u]) w := by
  simp only [results, h]
  simp only [Array.getD_eq_getD_getElem?] at *
  simp [Sem.run_bind, Result.andThen, hq]
  rw [hp, show (asAddr (.pointer (some a))).run P w = .ok a w from rfl]
  simp only []
  rw [hl]
/-- the cells of no page -/
def zcs : List Value := [.int .i64 0, .int .u64 0, .slice none 0 0, .slice none 0 0, .slice none 0 0, .slice none 0 0]
/-- may a page with those slots be? -/
def okM (num : Int) (sl : Nat → List UInt8) : Bool := okN num (fun k => (sl k).length)
theorem okM_eq {w : World} {B : Nat} {num : Int} {sl : Nat → List UInt8} {s : PS} (h : PgAt w B sl s) : okN num s.n = okM num sl := by
  unfold okM okN
  simp only [h.lens 0 (by omega), h.lens 1 (by omega), h.lens 2 (by omega), h.lens 3 (by omega)]
def none_ : Nat → List UInt8 := fun _ => []
/-- what Decode tells: the error, the page -/
structure DP where
  err : Int
  num : Int
  lsn : Nat
  sl : Nat → List UInt8
def badP (e : Int) : DP := ⟨e, 0, 0, none_⟩
def good (number : Int) (l : List UInt8) : Bool := okM (rdNum l : Int) (rdS l) && decide ((rdNum l : Int) = number) && decide (pageB (rdNum l : Int) (rdLsn l) (rdS l) = l)
def decM (number : Int) (l : List UInt8) : DP :=
  if 0 ≤ number ∧ number < 32 then
    if l.length = 256 then
      if l.all (· == 0) = true then ⟨0, number, 0, none_⟩
      else if good number l = true then ⟨0, (rdNum l : Int), rdLsn l, rdS l⟩
      else badP 160
    else badP 160
  else badP 2
/-- what Decode leaves -/
def DecP (w : World) (d : DP) (e : Ending) (w' : World) : Prop := ∃ s, e = .returned (.tuple #[.agg (pcs d.num d.lsn s).toArray, .int .i64 d.err]) ∧ PO w' w.heap.size d.sl s ∧ Below w.heap.size w w'

set_option maxHeartbeats 400000 in
theorem wrongD_any (A1 : Option Addr) (n1 c1 : Nat) (K : Bool) (p q b : Nat) (num number : Int) (lsn : Nat) (s : PS) (tq tb : TypeId) (A2 : Option Addr) (n2 c2 : Nat) (l1 l2 : List UInt8) (w : World)
    (h1 : l1.length = n1) (h2 : l2.length = n2) (hm : n1 ≤ 1000) (B1 B2 : Nat) (b1 : Bs w B1 A1 l1) (b2 : Bs w B2 A2 l2) (hp : Row w p 26 (pcs num lsn s)) (hq : Row w q tq [.int .i64 number]) (hb : Row w b tb [.slice A2 n2 c2]) :
    Calls Tryd.prog 20 #[.slice A1 n1 c1, .int .i64 (errP K), .pointer (some ⟨p, 0, none⟩), .pointer (some ⟨q, 0, none⟩), .pointer (some ⟨b, 0, none⟩)] w fun e w' => e = .returned (.bool (!(K && decide (num = number) && decide (l1 = l2)))) ∧ w = w' := by
  have hc0 : w.cell? ⟨p, 0, none⟩ = some (.int .i64 num) := hp.cell 0
  have hc1 : w.cell? ⟨q, 0, none⟩ = some (.int .i64 number) := hq.cell 0
  have hc2 : w.cell? ⟨b, 0, none⟩ = some (.slice A2 n2 c2) := hb.cell 0
  have HE := Lib.hid (equal_n A1 A2 l1 l2 c1 c2 n1 n2 w h1 h2 (by omega) B1 B2 b1 b2)
  clear h1 h2 b1 b2 hp hq hb
  cases K
  · rw [show errP false = 160 from rfl]
    go_enter Tryd.func20, Tryd.ntmps20
    go_wp2
    go_ret
    exact ⟨rfl, rfl⟩
  · rw [show errP true = 0 from rfl]
    by_cases hn : num = number
    · have hb : (num != number) = false := by simp [hn]
      have HN := Lib.hid hn
      clear hn
      go_enter Tryd.func20, Tryd.ntmps20
      go_wp2_with fail
      refine HE.out.mono ?_
      rintro e w' ⟨rfl, rfl⟩
      go_wp2
      go_ret
      exact ⟨ret_bool (by simp [HN.out]), rfl⟩
    · have hb : (num != number) = true := by simp [hn]
      have HN := Lib.hid hn
      clear hn
      go_enter Tryd.func20, Tryd.ntmps20
      go_wp2
      go_ret
      exact ⟨ret_bool (by simp [HN.out]), rfl⟩
/-- what Decode has made first -/
structure D0 (w : World) (number : Int) (A : Option Addr) (n c : Nat) (W : World) : Prop where
  r2 : Row W w.heap.size 3 [.int .i64 number]
  r3 : Row W (w.heap.size + 1) 23 [.slice A n c]
  r4 : Row W (w.heap.size + 1 + 1) 26 (pcs 0 0 zs)
  hb : Below w.heap.size w W
  sz : w.heap.size + 1 + 1 + 1 ≤ W.heap.size
theorem D0.then {w : World} {number : Int} {A : Option Addr} {n c : Nat} {W W' : World} (h : D0 w number A n c W) (hb : Below W.heap.size W W') : D0 w number A n c W' := by
  have := h.sz
  exact ⟨h.r2.below hb (by omega), h.r3.below hb (by omega), h.r4.below hb (by omega), h.hb.trans (hb.mono h.hb.size), Nat.le_trans h.sz hb.size⟩
theorem D0.new (w : World) (number : Int) (A : Option Addr) (n c : Nat) : D0 w number A n c (((w.alloc (.cells #[.int .i64 number] 3)).alloc (.cells #[.slice A n c] 23)).alloc (.cells (pcs 0 0 zs).toArray 26)) := by
  refine ⟨((Row.new w 3 [.int .i64 number]).alloc _).alloc _, ?_, ?_, (((Below.refl _ _).alloc (Nat.le_refl _) _).alloc (by simp) _).alloc (by simp; omega) _, by simp⟩
  · have := (Row.new (w.alloc (.cells #[.int .i64 number] 3)) 23 [.slice A n c]).alloc (.cells (pcs 0 0 zs).toArray 26)
    rwa [World.size_alloc] at this
  · have := Row.new ((w.alloc (.cells #[.int .i64 number] 3)).alloc (.cells #[.slice A n c] 23)) 26 (pcs 0 0 zs)
    rwa [World.size_alloc, World.size_alloc] at this

set_option maxHeartbeats 2000000 in
theorem decode_any (number : Int) (A : Option Addr) (n c : Nat) (l : List UInt8) (w : World) (hl : l.length = n) (hn : n ≤ 1000) (hb : Bs w w.heap.size A l) (hA : A = none → c = 0) :
    Calls Tryd.prog 7 #[.int .i64 number, .slice A n c] w (DecP w (decM number l)) := by
  obtain ⟨D, hD⟩ : ∃ D, D = decM number l := ⟨_, rfl⟩
  rw [← hD]
  have HD := Lib.hid hD
  have HL := Lib.hid hl
  have HBS := Lib.hid hb
  have HA := Lib.hid hA
  clear hD hl hb hA
  go_enter Tryd.func7, Tryd.ntmps7
  go_upto_region 1 with fail
  have H0 := Lib.hid (D0.new w number A n c)
  rw [show pcs 0 0 zs = [.int .i64 0, .int .u64 0, .slice none 0 0, .slice none 0 0, .slice none 0 0, .slice none 0 0] from rfl] at H0
  generalize ((w.alloc (.cells #[.int .i64 number] 3)).alloc (.cells #[.slice A n c] 23)).alloc (.cells #[.int .i64 0, .int .u64 0, .slice none 0 0, .slice none 0 0, .slice none 0 0, .slice none 0 0] 26) = w1 at H0 ⊢
  have hc0 : w1.cell? ⟨w.heap.size, 0, none⟩ = some (.int .i64 number) := H0.out.r2.cell 0
  have hc1 : w1.cell? ⟨w.heap.size + 1, 0, none⟩ = some (.slice A n c) := H0.out.r3.cell 0
  go_wp2_with fail
  refine (below_any _ _ _).mono ?_
  rintro e w2 ⟨rfl, rfl⟩
  by_cases h32 : 0 ≤ number ∧ number < 32
  case neg =>
    rw [show decide (0 ≤ number ∧ number < 32) = false by simp; omega]
    have HZ : Hid (D = badP 2) := (show _ = _ by rw [HD.out]; unfold decM; rw [if_neg h32])
    clear h32
    have HONE : Hid (∀ v ∈ pcs 0 0 zs, v.oneCell' = true) := pcs_one
    have HPI : Hid ((Tryd.prog.info? 26).map (·.size) = some (pcs 0 0 zs).length) := page_info
    have HLE : Hid ((pcs 0 0 zs).length = zcs.length) := (rfl : _ = _)
    have HRZ : Hid (Row w1 (w.heap.size + 1 + 1) 26 zcs) := (show Row _ _ _ _ from H0.out.r4)
    go_wp2_with ((with_reducible refine wpList_store_whole (op := ⟨none, _, _, _, _, _⟩) ?_ 26 (.tmp 4) (.tmp 12) ?_ (w.heap.size + 1 + 1) (pcs 0 0 zs) ?_ ?_ 26 zcs HRZ.out HLE.out HONE.out HPI.out ?_))
    all_goals try (first | rfl | (simp; done))
    intro w8 hr8 hg8
    have HRES := Lib.hid (run_loadVar_mid (P := Tryd.prog) w8 (w.heap.size + 1 + 1) 0 26 (pcs 0 0 zs) _ (Row.all hr8) Tryd.underlying26 rfl HPI.out)
    have HB8 := Lib.hid (H0.out.hb.grown hg8 H0.out.hb.size (fun k hk => by have := Option.some.inj hk; omega))
    have HPO : Hid (PO w8 w.heap.size none_ zs) := PO.nil _ _
    clear hr8 hg8
    go_wp2
    refine bodyPost_ret (v := .tuple #[.agg (pcs 0 0 zs).toArray, .int .i64 2]) (res_cell_tmp (p := 4) (q := 5) (ty := 26) rfl _ _ ⟨w.heap.size + 1 + 1, 0, none⟩ _ _ rfl HRES.out rfl) rfl ?_
    rw [HZ.out]
    exact ⟨zs, rfl, HPO.out, HB8.out⟩

  rw [show decide (0 ≤ number ∧ number < 32) = true by simp [h32]]
  have H32 := Lib.hid h32
  clear h32
  by_cases h256 : n = 256
  case neg =>
    have hbe : ((n : Int) != 256) = true := by simp; omega
    have HZ : Hid (D = badP 160) := (show _ = _ by rw [HD.out]; unfold decM; rw [if_pos H32.out, if_neg (by rw [HL.out]; exact h256)])
    clear h256
    have HONE : Hid (∀ v ∈ pcs 0 0 zs, v.oneCell' = true) := pcs_one
    have HPI : Hid ((Tryd.prog.info? 26).map (·.size) = some (pcs 0 0 zs).length) := page_info
    have HLE : Hid ((pcs 0 0 zs).length = zcs.length) := (rfl : _ = _)
    have HRZ : Hid (Row w1 (w.heap.size + 1 + 1) 26 zcs) := (show Row _ _ _ _ from H0.out.r4)
    go_wp2_with ((with_reducible refine wpList_store_whole (op := ⟨none, _, _, _, _, _⟩) ?_ 26 (.tmp 4) (.tmp 17) ?_ (w.heap.size + 1 + 1) (pcs 0 0 zs) ?_ ?_ 26 zcs HRZ.out HLE.out HONE.out HPI.out ?_))
    all_goals try (first | rfl | (simp; done))
    intro w8 hr8 hg8
    have HRES := Lib.hid (run_loadVar_mid (P := Tryd.prog) w8 (w.heap.size + 1 + 1) 0 26 (pcs 0 0 zs) _ (Row.all hr8) Tryd.underlying26 rfl HPI.out)
    have HB8 := Lib.hid (H0.out.hb.grown hg8 H0.out.hb.size (fun k hk => by have := Option.some.inj hk; omega))
    have HPO : Hid (PO w8 w.heap.size none_ zs) := PO.nil _ _
    clear hr8 hg8
    go_wp2
    refine bodyPost_ret (v := .tuple #[.agg (pcs 0 0 zs).toArray, .int .i64 160]) (res_cell_tmp (p := 4) (q := 5) (ty := 26) rfl _ _ ⟨w.heap.size + 1 + 1, 0, none⟩ _ _ rfl HRES.out rfl) rfl ?_
    rw [HZ.out]
    exact ⟨zs, rfl, HPO.out, HB8.out⟩

  subst h256
  go_wp2_with fail
  refine (zero_any A l c 256 w1 HL.out.symm (by unfold maxLen; omega) w.heap.size (HBS.out.below H0.out.hb)).mono ?_
  rintro e w2 ⟨rfl, rfl⟩
  by_cases hz : l.all (· == 0) = true
  case pos =>
    rw [hz]
    have HZ : Hid (D = ⟨0, number, 0, none_⟩) := (show _ = _ by rw [HD.out]; unfold decM; rw [if_pos H32.out, if_pos HL.out, if_pos hz])
    clear hz
    have HONE : Hid (∀ v ∈ pcs number 0 zs, v.oneCell' = true) := pcs_one
    have HPI : Hid ((Tryd.prog.info? 26).map (·.size) = some (pcs number 0 zs).length) := page_info
    have HLE : Hid ((pcs number 0 zs).length = zcs.length) := (rfl : _ = _)
    have HRZ : Hid (Row w1 (w.heap.size + 1 + 1) 26 zcs) := (show Row _ _ _ _ from H0.out.r4)
    go_wp2_with ((with_reducible refine wpList_store_whole (op := ⟨none, _, _, _, _, _⟩) ?_ 26 (.tmp 4) (.tmp 22) ?_ (w.heap.size + 1 + 1) (pcs number 0 zs) ?_ ?_ 26 zcs HRZ.out HLE.out HONE.out HPI.out ?_))
    all_goals try (first | rfl | (simp; done))
    intro w8 hr8 hg8
    have HRES := Lib.hid (run_loadVar_mid (P := Tryd.prog) w8 (w.heap.size + 1 + 1) 0 26 (pcs number 0 zs) _ (Row.all hr8) Tryd.underlying26 rfl HPI.out)
    have HB8 := Lib.hid (H0.out.hb.grown hg8 H0.out.hb.size (fun k hk => by have := Option.some.inj hk; omega))
    have HPO : Hid (PO w8 w.heap.size none_ zs) := PO.nil _ _
    clear hr8 hg8
    go_wp2
    refine bodyPost_ret (v := .tuple #[.agg (pcs number 0 zs).toArray, .int .i64 0]) (res_cell_tmp (p := 4) (q := 5) (ty := 26) rfl _ _ ⟨w.heap.size + 1 + 1, 0, none⟩ _ _ rfl HRES.out rfl) rfl ?_
    rw [HZ.out]
    exact ⟨zs, rfl, HPO.out, HB8.out⟩
  rw [show l.all (· == 0) = false by simpa using hz]
  have HZ0 : Hid (D = if good number l = true then ⟨0, (rdNum l : Int), rdLsn l, rdS l⟩ else badP 160) := (show _ = _ by rw [HD.out]; unfold decM; rw [if_pos H32.out, if_pos HL.out, if_neg hz])
  clear hz HD
  go_wp2_with fail
  refine (pread_any A c l w1 HL.out ((HBS.out.below H0.out.hb).more H0.out.hb.size) HA.out).mono ?_
  rintro e w2 ⟨s, rfl, hpo, hb2⟩
  have H2 := Lib.hid (H0.out.then hb2)
  have HPO2 := Lib.hid (hpo.mono H0.out.hb.size)
  clear hpo hb2 H0 hc0 hc1
  unfold pcs
  go_upto_region 8 with fail
  have HBX := Lib.hid (boxed w2 (rdNum l : Int) (rdLsn l) s)
  have H3 := Lib.hid (H2.out.then HBX.out.hb)
  have HPO3 := Lib.hid (HPO2.out.below HBX.out.hb)
  have hP : w.heap.size + 1 + 1 + 1 ≤ w2.heap.size := H2.out.sz
  unfold pcs at HBX H3 HPO3
  generalize w2.alloc (.cells #[.int .i64 (rdNum l : Int), .int .u64 (rdLsn l : Int), .slice (s.A 0) (s.n 0) (s.c 0), .slice (s.A 1) (s.n 1) (s.c 1), .slice (s.A 2) (s.n 2) (s.c 2), .slice (s.A 3) (s.n 3) (s.c 3)] 26) = w3 at HBX H3 HPO3 ⊢
  have HP3 := Lib.hid HBX.out.row
  have HPlt := Lib.hid HBX.out.sz
  clear HPO2 H2 HBX
  generalize w2.heap.size = P at HP3 HPlt hP ⊢
  have ha0 : w3.cell? ⟨P, 0, none⟩ = some (.int .i64 (rdNum l : Int)) := HP3.out.cell 0
  have ha1 : w3.cell? ⟨P, 1, none⟩ = some (.int .u64 (rdLsn l : Int)) := HP3.out.cell 1
  have ha2 : w3.cell? ⟨P, 2, none⟩ = some (.slice (s.A 0) (s.n 0) (s.c 0)) := HP3.out.cell 2
  have ha3 : w3.cell? ⟨P, 3, none⟩ = some (.slice (s.A 1) (s.n 1) (s.c 1)) := HP3.out.cell 3
  have ha4 : w3.cell? ⟨P, 4, none⟩ = some (.slice (s.A 2) (s.n 2) (s.c 2)) := HP3.out.cell 4
  have ha5 : w3.cell? ⟨P, 5, none⟩ = some (.slice (s.A 3) (s.n 3) (s.c 3)) := HP3.out.cell 5
  have HEN := Lib.hid (encode_any (rdNum l : Int) (rdLsn l) (rdS l) s w3.heap.size w3 HPO3.out.at_ (Nat.le_refl _))
  rw [okM_eq HPO3.out.at_] at HEN
  have HG : Hid (good number l = (okM (rdNum l : Int) (rdS l) && decide ((rdNum l : Int) = number) && decide ((if okM (rdNum l : Int) (rdS l) = true then pageB (rdNum l : Int) (rdLsn l) (rdS l) else []) = l))) := (show _ = _ by
    unfold good
    cases okM (rdNum l : Int) (rdS l) <;> simp)
  have HPBL : Hid ((if okM (rdNum l : Int) (rdS l) = true then pageB (rdNum l : Int) (rdLsn l) (rdS l) else []).length ≤ 256) := (show _ ≤ _ by
    split
    · rename_i hk
      rw [pageB_len (okN_iff.1 hk).2]
      omega
    · simp)
  unfold Enc at HEN
  generalize okM (rdNum l : Int) (rdS l) = K at HEN HG HPBL
  obtain ⟨PB, hPB⟩ : ∃ PB, PB = (if K = true then pageB (rdNum l : Int) (rdLsn l) (rdS l) else []) := ⟨_, rfl⟩
  rw [← hPB] at HEN HG HPBL
  clear hPB
  unfold pcs at HEN
  go_wp2_with fail
  refine HEN.out.mono ?_
  rintro e w4 ⟨v, rfl, ho, hb4⟩
  have H4 := Lib.hid (H3.out.then hb4)
  have HPO4 := Lib.hid (HPO3.out.below hb4)
  have HP4 := Lib.hid (HP3.out.below hb4 (by have := HPlt.out; omega))
  obtain ⟨A4, n4, c4, rfl, hs4⟩ := ho.sl
  have HS4 := Lib.hid hs4
  clear ho hb4 hs4 HEN H3 HPO3 HP3 ha0 ha1 ha2 ha3 ha4 ha5
  have h1000 : n4 ≤ 1000 := by have := HPBL.out; have := HS4.out.len; omega
  go_wp2_with fail
  refine (wrongD_any A4 n4 c4 K P w.heap.size (w.heap.size + 1) (rdNum l : Int) number (rdLsn l) s 3 23 A 256 c PB l w4 HS4.out.len HL.out h1000 w4.heap.size w4.heap.size HS4.out.bs ((HBS.out.below H4.out.hb).more H4.out.hb.size) HP4.out H4.out.r2 H4.out.r3).mono ?_
  rintro e w5 ⟨rfl, rfl⟩
  rw [← HG.out]
  cases hG : good number l
  · have HZ : Hid (D = badP 160) := (show _ = _ by rw [HZ0.out, hG]; rfl)
    rw [show (!false) = true from rfl]
    clear hG
    have HONE : Hid (∀ v ∈ pcs 0 0 zs, v.oneCell' = true) := pcs_one
    have HPI : Hid ((Tryd.prog.info? 26).map (·.size) = some (pcs 0 0 zs).length) := page_info
    have HLE : Hid ((pcs 0 0 zs).length = zcs.length) := (rfl : _ = _)
    have HRZ : Hid (Row w4 (w.heap.size + 1 + 1) 26 zcs) := (show Row _ _ _ _ from H4.out.r4)
    go_wp2_with ((with_reducible refine wpList_store_whole (op := ⟨none, _, _, _, _, _⟩) ?_ 26 (.tmp 4) (.tmp 32) ?_ (w.heap.size + 1 + 1) (pcs 0 0 zs) ?_ ?_ 26 zcs HRZ.out HLE.out HONE.out HPI.out ?_))
    all_goals try (first | rfl | (simp; done))
    intro w8 hr8 hg8
    have HRES := Lib.hid (run_loadVar_mid (P := Tryd.prog) w8 (w.heap.size + 1 + 1) 0 26 (pcs 0 0 zs) _ (Row.all hr8) Tryd.underlying26 rfl HPI.out)
    have HB8 := Lib.hid (H4.out.hb.grown hg8 H4.out.hb.size (fun k hk => by have := Option.some.inj hk; omega))
    have HPO : Hid (PO w8 w.heap.size none_ zs) := PO.nil _ _
    clear hr8 hg8
    go_wp2
    refine bodyPost_ret (v := .tuple #[.agg (pcs 0 0 zs).toArray, .int .i64 160]) (res_cell_tmp (p := 4) (q := 5) (ty := 26) rfl _ _ ⟨w.heap.size + 1 + 1, 0, none⟩ _ _ rfl HRES.out rfl) rfl ?_
    rw [HZ.out]
    exact ⟨zs, rfl, HPO.out, HB8.out⟩

  · have HZ : Hid (D = ⟨0, (rdNum l : Int), rdLsn l, rdS l⟩) := (show _ = _ by rw [HZ0.out, hG]; rfl)
    rw [show (!true) = false from rfl]
    clear hG
    have ha0 : w4.cell? ⟨P, 0, none⟩ = some (.int .i64 (rdNum l : Int)) := HP4.out.cell 0
    have ha1 : w4.cell? ⟨P, 1, none⟩ = some (.int .u64 (rdLsn l : Int)) := HP4.out.cell 1
    have ha2 : w4.cell? ⟨P, 2, none⟩ = some (.slice (s.A 0) (s.n 0) (s.c 0)) := HP4.out.cell 2
    have ha3 : w4.cell? ⟨P, 3, none⟩ = some (.slice (s.A 1) (s.n 1) (s.c 1)) := HP4.out.cell 3
    have ha4 : w4.cell? ⟨P, 4, none⟩ = some (.slice (s.A 2) (s.n 2) (s.c 2)) := HP4.out.cell 4
    have ha5 : w4.cell? ⟨P, 5, none⟩ = some (.slice (s.A 3) (s.n 3) (s.c 3)) := HP4.out.cell 5
    have HONE : Hid (∀ v ∈ pcs (rdNum l : Int) (rdLsn l) s, v.oneCell' = true) := pcs_one
    have HPI : Hid ((Tryd.prog.info? 26).map (·.size) = some (pcs (rdNum l : Int) (rdLsn l) s).length) := page_info
    have HLE : Hid ((pcs (rdNum l : Int) (rdLsn l) s).length = zcs.length) := (rfl : _ = _)
    have HRZ : Hid (Row w4 (w.heap.size + 1 + 1) 26 zcs) := (show Row _ _ _ _ from H4.out.r4)
    go_wp2_with ((with_reducible refine wpList_store_whole (op := ⟨none, _, _, _, _, _⟩) ?_ 26 (.tmp 4) (.tmp 33) ?_ (w.heap.size + 1 + 1) (pcs (rdNum l : Int) (rdLsn l) s) ?_ ?_ 26 zcs HRZ.out HLE.out HONE.out HPI.out ?_))
    all_goals try (first | rfl | (simp; done))
    intro w8 hr8 hg8
    have HRES := Lib.hid (run_loadVar_mid (P := Tryd.prog) w8 (w.heap.size + 1 + 1) 0 26 (pcs (rdNum l : Int) (rdLsn l) s) _ (Row.all hr8) Tryd.underlying26 rfl HPI.out)
    have HB8 := Lib.hid (H4.out.hb.grown hg8 H4.out.hb.size (fun k hk => by have := Option.some.inj hk; omega))
    have HPO : Hid (PO w8 w.heap.size (rdS l) s) := fun j hj => (HPO4.out j hj).kept hg8 (own_ne (HPO4.out j hj) H4.out.r4 (by decide))
    clear hr8 hg8
    go_wp2
    refine bodyPost_ret (v := .tuple #[.agg (pcs (rdNum l : Int) (rdLsn l) s).toArray, .int .i64 0]) (res_cell_tmp (p := 4) (q := 5) (ty := 26) rfl _ _ ⟨w.heap.size + 1 + 1, 0, none⟩ _ _ rfl HRES.out rfl) rfl ?_
    rw [HZ.out]
    exact ⟨s, rfl, HPO.out, HB8.out⟩
end Go.Proofs.YtnljhopikjkflaaDoor.Pg
