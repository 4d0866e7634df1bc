/- Flow: blocks in memory, while one block's ways are looked at. -/
import Derived.Test.YtlpijnnlmgoihaaFN
namespace Go.Proofs.Ytlpijnnlmgoihaa
open Go.RowKit M
open Fl (upd upd_same upd_other)

theorem NumsAt.grown {k : IntKind} {w w' : World} {q : Option Addr} {l : List Int} {row : Option Nat} (h : NumsAt k w q l) (hg : w.grownBy w' row) (hn : ∀ ad, q = some ad → row ≠ some ad.block) : NumsAt k w' q l :=
  ⟨h.small, fun i hi => by
    obtain ⟨b, o, hq, hb, hc⟩ := h.cells i hi
    exact ⟨b, o, hq, Nat.lt_of_lt_of_le hb hg.size, (World.cell?_of_block (a := ⟨b, o + i, none⟩) (hg.block b hb (fun e => hn _ hq e.symm))).trans hc⟩⟩
/-- and the row of where one goes on -/
structure Bj (w W : World) (g n : Nat) (G : Fl.Fg) (P : Nat → Option Addr) (C : Nat → Nat) (R : Nat → List Nat) (ps : Option Addr) (xs : List Int) : Prop where
  bm : Bm w W g n G P C R
  nu : NumsAt .i64 W ps xs
  ng : ∀ ad, ps = some ad → ad.block ≠ g
  nr : ∀ ad, ps = some ad → ∀ r, r < 2 * n → (P r).map Addr.block ≠ some ad.block
theorem Bj.start {w W W' : World} {g n : Nat} {G : Fl.Fg} {P : Nat → Option Addr} {C : Nat → Nat} {R : Nat → List Nat} {ps : Option Addr} {xs : List Int} (h : Bm w W g n G P C R) (hb : Below W.heap.size W W') (hn : NumsAt .i64 W' ps xs) (hp : ∀ ad, ps = some ad → W.heap.size ≤ ad.block) : Bj w W' g n G P C R ps xs := by
  refine ⟨h.next hb, hn, fun ad e => ?_, fun ad e r hr e2 => ?_⟩
  · have := hp ad e; have := h.gl; omega
  · have := hp ad e
    have := ((h.own r hr).lt _ (by rw [own_blk]; exact e2)).2
    omega
theorem Bj.next {w W W' : World} {g n : Nat} {G : Fl.Fg} {P : Nat → Option Addr} {C : Nat → Nat} {R : Nat → List Nat} {ps : Option Addr} {xs : List Int} (h : Bj w W g n G P C R ps xs) (hb : Below W.heap.size W W') : Bj w W' g n G P C R ps xs :=
  ⟨h.bm.next hb, h.nu.below hb, h.ng, h.nr⟩
theorem Bj.app {w W W' : World} {g n r x m c' o : Nat} {q' : Option Addr} {G : Fl.Fg} {P : Nat → Option Addr} {C : Nat → Nat} {R : Nat → List Nat} {ps : Option Addr} {xs : List Int} {v : Value} (h : Bj w W g n G P C R ps xs) (hv : v.ownBlock = (P r).map Addr.block) (hr : r < 2 * n) (heo : o = r / 2 * 5 + 3 + r % 2)
    (ho : W'.ownsRow w.heap.size 3 1 (.slice q' m c') ((R r).map Int.ofNat ++ [(x : Int)]).length (intsV ((R r).map Int.ofNat ++ [(x : Int)]))) (hm : m = (R r).length + 1) (hg : W.grownBy W' v.ownBlock) (hb : (Value.slice q' m c').ownBlock = v.ownBlock ∨ (Value.slice q' m c').ownBlock = some W.heap.size)
    (hlt : ∀ ad, ps = some ad → ad.block < W.heap.size) :
    Bj w (W'.setCell ⟨g, o, none⟩ (.slice q' m c')) g n G (upd P r q') (upd C r c') (upd R r (R r ++ [x])) ps xs := by
  rw [hv] at hg hb
  rw [own_blk] at hb
  refine ⟨h.bm.app hr heo ho hm hg hb, NumsAt.setOther (h.nu.grown hg (fun ad e => h.nr ad e r hr)) h.ng _, h.ng, fun ad e s hs => ?_⟩
  by_cases e2 : s = r
  · subst e2
    rw [upd_same]
    rcases hb with e3 | e3
    · rw [e3]; exact h.nr ad e s hs
    · rw [e3]
      intro e4
      injection e4 with e4
      have := hlt ad e
      omega
  · rw [upd_other _ _ e2]; exact h.nr ad e s hs
/-- what lies there behind the append, ahead of the store -/
theorem Bj.mid {w W W' : World} {g n r o : Nat} {G : Fl.Fg} {P : Nat → Option Addr} {C : Nat → Nat} {R : Nat → List Nat} {ps : Option Addr} {xs : List Int} {v : Value} (h : Bj w W g n G P C R ps xs) (hv : v.ownBlock = (P r).map Addr.block) (hr : r < 2 * n) (heo : o = r / 2 * 5 + 3 + r % 2) (hg : W.grownBy W' v.ownBlock) :
    W'.cell? ⟨g, o, none⟩ = some (.slice (P r) (R r).length (C r)) ∧ W'.frozen? ⟨g, o, none⟩ = false ∧ g < W'.heap.size := by
  subst heo
  rw [hv] at hg
  have hgg : W'.heap[g]? = W.heap[g]? := hg.block g h.bm.gl (fun e => h.bm.ne r hr e.symm)
  exact ⟨(World.cell?_of_block (a := ⟨g, _, none⟩) hgg).trans (h.bm.p r hr), (World.frozen?_of_block (a := ⟨g, _, none⟩) hgg).trans (h.bm.fz _), Nat.lt_of_lt_of_le h.bm.gl hg.size⟩
theorem Bj.at {w W : World} {g n r o : Nat} {G : Fl.Fg} {P : Nat → Option Addr} {C : Nat → Nat} {R : Nat → List Nat} {ps : Option Addr} {xs : List Int} (h : Bj w W g n G P C R ps xs) (hr : r < 2 * n) (heo : o = r / 2 * 5 + 3 + r % 2) : W.cell? ⟨g, o, none⟩ = some (.slice (P r) (R r).length (C r)) := by
  subst heo; exact h.bm.p r hr
theorem Bj.row {w W : World} {g n r : Nat} {G : Fl.Fg} {P : Nat → Option Addr} {C : Nat → Nat} {R : Nat → List Nat} {ps : Option Addr} {xs : List Int} (h : Bj w W g n G P C R ps xs) (hr : r < 2 * n) : W.ownsRow w.heap.size 3 1 (.slice (P r) (R r).length (C r)) ((R r).map Int.ofNat).length (intsV ((R r).map Int.ofNat)) := by
  rw [List.length_map]; exact h.bm.own r hr
theorem has_any {w W : World} {g n r : Nat} {G : Fl.Fg} {P : Nat → Option Addr} {C : Nat → Nat} {R : Nat → List Nat} {ps : Option Addr} {xs : List Int} (h : Bj w W g n G P C R ps xs) (hr : r < 2 * n) (hl : (R r).length ≤ 8192) (t : Nat) {b : Bool} (hb : b = decide (t ∈ R r)) : Calls Try.prog 27 #[.slice (P r) (R r).length (C r), .int .i64 (t : Int)] W fun e w' => e = .returned (.bool b) ∧ W = w' := by
  have o := h.row hr
  have el : (R r).length = ((R r).map Int.ofNat).length := by simp
  rw [el] at o
  have hN := own_nums o (by rw [← el]; omega)
  rw [el]
  refine (rhas_any (P r) (C r) ((R r).map Int.ofNat) (t : Int) W hN).mono ?_
  rintro e w' ⟨rfl, rfl⟩
  refine ⟨?_, rfl⟩
  rw [hb]
  congr 3
  rw [eq_iff_iff, List.mem_map]
  constructor
  · rintro ⟨a, ha, e⟩
    have : a = t := by have : (a : Int) = (t : Int) := e; omega
    exact this ▸ ha
  · intro ha; exact ⟨t, ha, rfl⟩
end Go.Proofs.Ytlpijnnlmgoihaa
