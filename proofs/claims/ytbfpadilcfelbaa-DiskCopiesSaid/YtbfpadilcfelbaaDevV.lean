/-
  Words for two disks and their references side by side.
-/
import Derived.Test.YtbfpadilcfelbaaDevU
namespace Go.Proofs.Ytbfpadilcfelbaa.Dsk
open Go.RowKit Go.Proofs.Ytbfpadilcfelbaa.Wd

theorem RVat.wider {w : World} {xs zs : List Nat} {x : RA} {r : RX} (h : RVat w xs x r) (hs : ∀ b ∈ xs, b ∈ zs) (hl : ∀ b ∈ zs, b < w.heap.size) : RVat w zs x r :=
  ⟨h.sl, h.pl, h.nc, h.mc, h.n0, h.m0, h.sb, h.pb, fun b o s e => hs b (h.sx b o s e), fun b o s e => hs b (h.px b o s e), hl⟩
theorem Opl.wider {w : World} {B B' : Nat} {A : Option Addr} {os : List OM} (h : Opl w B A os) (hB : B ≤ B') : Opl w B' A os := fun hp => by
  obtain ⟨b, o, e, hlt, hr⟩ := h hp
  exact ⟨b, o, e, by omega, hr⟩
/-- ops that came in -/
def OpsIn (w : World) (A : Option Addr) (n c : Nat) (os : List OM) : Prop :=
  os.length = n ∧ n ≤ c ∧ (A = none → c = 0) ∧ c ≤ maxLen ∧ Opl w w.heap.size A os ∧ ∀ o ∈ os, OpOk w o
theorem OpsIn.few {w : World} {A : Option Addr} {n c : Nat} {os : List OM} (h : OpsIn w A n c os) : ∃ (m : Nat) (L : List OM), m ≤ 120 ∧ m = L.length ∧ Opl w w.heap.size A L ∧ (∀ o ∈ L, OpOk w o) ∧
    ∀ w', Calls Try.prog 9 #[.slice A n c] w' fun e w'' => e = .returned (.slice A m c) ∧ w'' = w' := by
  obtain ⟨h1, h2, h3, h4, h5, h6⟩ := h
  refine ⟨min n 120, os.take 120, Nat.min_le_right _ _, by rw [List.length_take, h1, Nat.min_comm], h5.take 120, fun o ho => h6 o (List.mem_of_mem_take ho), fun w' => few_any A n c w' h2 h3 h4⟩
/-- two disks, their references, and the cells that hold those -/
def TwoI (w wr : World) (b b' g g' t t' : Nat) : Prop :=
  ∃ d x r d' x' r' zs, St w wr (b :: b' :: zs) [(g, d), (g', d')] ∧ Row wr b 31 (x.cells r) ∧ RVat wr zs x r ∧ Agr t d x ∧ Row wr b' 31 (x'.cells r') ∧ RVat wr zs x' r' ∧ Agr t' d' x' ∧ b ∉ zs ∧ b' ∉ zs ∧ b ≠ b' ∧ w.heap.size ≤ b ∧ w.heap.size ≤ b'
end Go.Proofs.Ytbfpadilcfelbaa.Dsk
