/- Plain facts on flow: the blocks of a program; those of the document's first example. -/
import Derived.Test.YtlpijnnlmgoihaaFC
namespace Go.Proofs.Ytlpijnnlmgoihaa
open Go.RowKit M

/-- a block -/
structure Bk where
  fr : Int
  to : Int
  la : Int
  su : List Int
  pr : List Int
deriving DecidableEq
def Bk.z : Bk := ⟨0, 0, 0, [], []⟩
namespace Fl
noncomputable def Fg.blk (G : Fg) (k : Nat) : Bk := ⟨(G.fr k : Int), (G.to (G.fr k) : Int), (G.la k : Int), (G.sk k).map Int.ofNat, (G.pk k).map Int.ofNat⟩
noncomputable def Fg.blks (G : Fg) : List Bk := (List.range G.n).map G.blk
-- the same, reckoned from what one may come to
def leadC (G : Fg) (r : List Nat) (j : Nat) : Bool := decide (j = 0) || r.any fun i => (G.su i).any fun s => decide (s = j) && (G.ju i || decide (s ≠ G.nx i))
def finC (G : Fg) (r : List Nat) (i : Nat) : Bool := decide ((G.su i).length ≠ 1) || G.ju i || leadC G r ((G.su i).getD 0 0)
def lastFC (G : Fg) (r : List Nat) : Nat → Nat → Nat
  | 0, i => i
  | f + 1, i => if finC G r i = true then i else lastFC G r f (G.nx i)
def lastC (G : Fg) (r : List Nat) (i : Nat) : Nat := lastFC G r (G.N - i) i
def toC (G : Fg) (r : List Nat) (i : Nat) : Nat := G.nx (lastC G r i)
def lsC (G : Fg) (r : List Nat) : List Nat := r.filter (leadC G r)
def frC (G : Fg) (r : List Nat) (k : Nat) : Nat := (lsC G r).getD k 0
def inBC (G : Fg) (r : List Nat) (k x : Nat) : Bool := decide (frC G r k ≤ x) && decide (x < toC G r (frC G r k))
def fdC (G : Fg) (r : List Nat) (x : Nat) : Nat := ((List.range (lsC G r).length).find? fun k => inBC G r k x).getD (lsC G r).length
def skC (G : Fg) (r : List Nat) (k : Nat) : List Nat := (G.su (lastC G r (frC G r k))).foldl (fun a s => once a (fdC G r s)) []
def pkC (G : Fg) (r : List Nat) (t : Nat) : List Nat := (List.range (lsC G r).length).filter fun k => decide (t ∈ skC G r k)
def blksC (G : Fg) (r : List Nat) : List Bk := (List.range (lsC G r).length).map fun k => ⟨(frC G r k : Int), (toC G r (frC G r k) : Int), (lastC G r (frC G r k) : Int), (skC G r k).map Int.ofNat, (pkC G r k).map Int.ofNat⟩
theorem lastF_is (G : Fg) : ∀ f i, G.lastF f i = lastFC G G.reach f i
  | 0, _ => rfl
  | f + 1, i => by
    show (if G.fin i = true then i else G.lastF f (G.nx i)) = (if finC G G.reach i = true then i else lastFC G G.reach f (G.nx i))
    rw [lastF_is G f]
    rfl
theorem last_is (G : Fg) : G.last = lastC G G.reach := by
  funext i
  exact lastF_is G _ i
theorem to_is (G : Fg) : G.to = toC G G.reach := by
  funext i
  unfold Fg.to toC
  rw [last_is]
theorem inB_is (G : Fg) (k x : Nat) : G.inB k x = inBC G G.reach k x := by
  unfold Fg.inB inBC
  rw [to_is]
  rfl
theorem fd_is' (G : Fg) (x : Nat) : G.fd x = fdC G G.reach x := by
  unfold Fg.fd fdC
  rw [show (fun k => G.inB k x) = fun k => inBC G G.reach k x from funext fun k => inB_is G k x]
  rfl
theorem sk_is (G : Fg) (k : Nat) : G.sk k = skC G G.reach k := by
  unfold Fg.sk skC Fg.la
  rw [last_is, show G.fd = fdC G G.reach from funext (fd_is' G)]
  rfl
theorem pk_is (G : Fg) (t : Nat) : G.pk t = pkC G G.reach t := by
  unfold Fg.pk pkC
  rw [show G.sk = skC G G.reach from funext (sk_is G)]
  rfl
theorem blks_is (G : Fg) : G.blks = blksC G G.reach := by
  unfold Fg.blks blksC
  rw [show G.blk = fun k => (⟨(frC G G.reach k : Int), (toC G G.reach (frC G G.reach k) : Int), (lastC G G.reach (frC G G.reach k) : Int), (skC G G.reach k).map Int.ofNat, (pkC G G.reach k).map Int.ofNat⟩ : Bk) from funext fun k => by
    unfold Fg.blk Fg.la
    rw [to_is, last_is, sk_is, pk_is]
    rfl]
  rfl
end Fl
noncomputable def blocksL (l : List In) : List Bk := if (checkS l).2 = 0 then (gOf l).blks else []
def bk (B : List Bk) (k : Nat) : Bk := B.getD k Bk.z
theorem blocks_ok {l : List In} (h : (checkS l).2 = 0) : blocksL l = (gOf l).blks := if_pos h
theorem blocks_no {l : List In} (h : ¬ (checkS l).2 = 0) : blocksL l = [] := if_neg h
theorem blocks_len {l : List In} (h : (checkS l).2 = 0) : (blocksL l).length = (gOf l).n := by rw [blocks_ok h]; simp [Fl.Fg.blks]
theorem blocks_at {l : List In} (h : (checkS l).2 = 0) {k : Nat} (hk : k < (gOf l).n) : bk (blocksL l) k = (gOf l).blk k := by
  rw [blocks_ok h]
  unfold bk Fl.Fg.blks
  rw [List.getD_eq_getElem?_getD, List.getElem?_map, List.getElem?_range hk]
  rfl
/-- the document's first example -/
def p0 : List In := [⟨183, 0, 0, 0, 0, 0⟩, ⟨21, 0, 0, 1, 0, 0⟩, ⟨183, 0, 0, 0, 1, 0⟩, ⟨149, 0, 0, 0, 0, 0⟩]
theorem p0_check : (checkS p0).2 = 0 := by decide +kernel
theorem p0_reach : (gOf p0).reach = [0, 1, 2, 3] := by
  have r0 : (gOf p0).R 0 := .zero
  have r1 : (gOf p0).R 1 := .step r0 (show 1 ∈ (gOf p0).su 0 by decide +kernel)
  have r2 : (gOf p0).R 2 := .step r1 (show 2 ∈ (gOf p0).su 1 by decide +kernel)
  have r3 : (gOf p0).R 3 := .step r1 (show 3 ∈ (gOf p0).su 1 by decide +kernel)
  show (List.range 4).filter (gOf p0).rB = List.range 4
  rw [List.filter_eq_self]
  intro a ha
  have := List.mem_range.1 ha
  rw [Fl.Fg.rB_iff]
  match a, this with
  | 0, _ => exact r0
  | 1, _ => exact r1
  | 2, _ => exact r2
  | 3, _ => exact r3
theorem p0_reachI : reachI p0 = [0, 1, 2, 3] := by
  rw [reachI_ok p0_check, p0_reach]
  rfl
theorem p0_blocks : blocksL p0 = [⟨0, 2, 1, [1, 2], []⟩, ⟨2, 3, 2, [2], [0]⟩, ⟨3, 4, 3, [], [0, 1]⟩] := by
  rw [blocks_ok p0_check, Fl.blks_is, p0_reach]
  decide +kernel
end Go.Proofs.Ytlpijnnlmgoihaa
