/- Flow: blocks in memory; what the laws ask of a right program's flow. -/
import Derived.Test.YtlpijnnlmgoihaaFH
import Derived.Test.YtlpijnnlmgoihaaFF
namespace Go.Proofs.Ytlpijnnlmgoihaa
open Go.RowKit M

/-- blocks lie in memory -/
structure BksAt (w : World) (q : Option Addr) (B : List Bk) : Prop where
  small : B.length * 72 ≤ 140737488351232
  cells : ∀ i, i < B.length → ∃ b off sp sc pp pc, q = some ⟨b, off, none⟩ ∧ b < w.heap.size ∧ w.cell? ⟨b, off + i * 5, none⟩ = some (.int .i64 (bk B i).fr) ∧ w.cell? ⟨b, off + i * 5 + 1, none⟩ = some (.int .i64 (bk B i).to) ∧ w.cell? ⟨b, off + i * 5 + 2, none⟩ = some (.int .i64 (bk B i).la) ∧ w.cell? ⟨b, off + i * 5 + 3, none⟩ = some (.slice sp (bk B i).su.length sc) ∧ w.cell? ⟨b, off + i * 5 + 4, none⟩ = some (.slice pp (bk B i).pr.length pc) ∧ NumsAt .i64 w sp (bk B i).su ∧ NumsAt .i64 w pp (bk B i).pr
theorem BksAt.below {w w' : World} {q : Option Addr} {B : List Bk} (h : BksAt w q B) (hb : Below w.heap.size w w') : BksAt w' q B :=
  ⟨h.small, fun i hi => by
    obtain ⟨b, off, sp, sc, pp, pc, hq, hl, c0, c1, c2, c3, c4, n1, n2⟩ := h.cells i hi
    exact ⟨b, off, sp, sc, pp, pc, hq, Nat.lt_of_lt_of_le hl hb.size, (hb.cell (p := ⟨b, off + i * 5, none⟩) hl).trans c0, (hb.cell (p := ⟨b, off + i * 5 + 1, none⟩) hl).trans c1, (hb.cell (p := ⟨b, off + i * 5 + 2, none⟩) hl).trans c2, (hb.cell (p := ⟨b, off + i * 5 + 3, none⟩) hl).trans c3, (hb.cell (p := ⟨b, off + i * 5 + 4, none⟩) hl).trans c4, n1.below hb, n2.below hb⟩⟩
/-- where one goes on, as numbers of the program -/
theorem su_ints {l : List In} (hc : (checkS l).2 = 0) {i : Nat} (hi : (gOf l).R i) : succL l (i : Int) = ((gOf l).su i).map Int.ofNat := by
  obtain ⟨k1, k2⟩ := hi.ok (check_flow hc)
  have hp : placeB l (i : Int) = true := place_nat.2 ⟨k1, k2⟩
  have h3 := (check_ok hc).2.2
  have hm := may_place h3 hp
  show succL l (i : Int) = ((succL l (i : Int)).map Int.toNat).map Int.ofNat
  rw [List.map_map]
  have : ∀ n ∈ succL l (i : Int), (Int.ofNat ∘ Int.toNat) n = n := by
    intro n hn
    have := (placeB_true.1 (hm n hn)).1.1
    show ((n.toNat : Nat) : Int) = n
    omega
  rw [List.map_congr_left this]
  simp
/-- what FlowInside asks -/
structure Ins4 (l : List In) (n : Nat) (fr to la : Nat → Nat) : Prop where
  len : (blocksL l).length = n
  blk : ∀ k, k < n → (bk (blocksL l) k).fr = (fr k : Int) ∧ (bk (blocksL l) k).to = (to k : Int) ∧ (bk (blocksL l) k).la = (la k : Int) ∧ (gOf l).R (fr k) ∧ (gOf l).last (fr k) = la k ∧ la k < to k ∧ to k ≤ la k + 2 ∧ la k < l.length ∧ fr k ≤ la k
  big : n ≤ 4096 ∧ l.length ≤ 4096
theorem ins4 {l : List In} (hc : (checkS l).2 = 0) : ∃ n fr to la, Ins4 l n fr to la := by
  have hG := check_flow hc
  refine ⟨(gOf l).n, (gOf l).fr, fun k => (gOf l).to ((gOf l).fr k), (gOf l).la, blocks_len hc, fun k hk => ?_, ?_, (check_ok hc).1⟩
  · rw [blocks_at hc hk]
    obtain ⟨h1, h2⟩ := Fl.Fg.fr_ok hG hk
    obtain ⟨t1, t2, _⟩ := Fl.Fg.to_ok hG h1
    exact ⟨rfl, rfl, rfl, h1, rfl, t1, t2, ((Fl.Fg.last_ok hG _ h1).1.ok hG).1, (Fl.Fg.last_ok hG _ h1).2.2⟩
  · have h1 : (gOf l).n ≤ (gOf l).reach.length := List.length_filter_le _ _
    have h2 : (gOf l).reach.length ≤ (List.range (gOf l).N).length := List.length_filter_le _ _
    rw [List.length_range] at h2
    have h3 : (gOf l).N ≤ 4096 := (check_ok hc).1
    omega
/-- where a place stands among blocks, or -1 -/
def findB (B : List Bk) (x : Int) : Int := match (List.range B.length).find? (fun k => decide ((bk B k).fr ≤ x) && decide (x < (bk B k).to)) with
  | some k => (k : Int)
  | none => -1
end Go.Proofs.Ytlpijnnlmgoihaa
