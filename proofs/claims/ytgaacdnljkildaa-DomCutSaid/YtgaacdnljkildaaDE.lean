/- Dominance: a graph in memory; the document's own walk from node to node. -/
import Derived.Test.YtgaacdnljkildaaDD
namespace Go.Proofs.Ytgaacdnljkildaa
open Go.RowKit
open Dm

/-- rows of numbers lie in memory -/
structure GsAt (w : World) (q : Option Addr) (g : List (List Int)) : Prop where
  cells : ∀ i, i < g.length → ∃ b off p c, q = some ⟨b, off, none⟩ ∧ b < w.heap.size ∧ w.cell? ⟨b, off + i, none⟩ = some (.slice p (g.getD i []).length c) ∧ NumsAt .i64 w p (g.getD i [])
theorem GsAt.below {w w' : World} {q : Option Addr} {g : List (List Int)} (h : GsAt w q g) (hb : Below w.heap.size w w') : GsAt w' q g :=
  ⟨fun i hi => by
    obtain ⟨b, off, p, c, hq, hl, h0, hn⟩ := h.cells i hi
    exact ⟨b, off, p, c, hq, Nat.lt_of_lt_of_le hl hb.size, (hb.cell (p := ⟨b, off + i, none⟩) hl).trans h0, hn.below hb⟩⟩
/-- how many numbers all rows have -/
def tot : List (List Int) → Nat
  | [] => 0
  | r :: g => r.length + tot g
/-- how many numbers the rows of nodes that were not met have -/
def pot : List (List Int) → List Bool → Nat
  | r :: g, b :: s => (if b = true then 0 else r.length) + pot g s
  | _, _ => 0
theorem pot_rep : ∀ g : List (List Int), pot g (List.replicate g.length false) = tot g
  | [] => rfl
  | r :: g => by
    show pot (r :: g) (false :: List.replicate g.length false) = r.length + tot g
    unfold pot
    rw [pot_rep g]; rfl
theorem pot_set : ∀ {g : List (List Int)} {s : List Bool} {i : Nat}, i < g.length → i < s.length → s.getD i false = false → pot g (s.set i true) + (g.getD i []).length = pot g s
  | [], _, _, h, _, _ => absurd h (Nat.not_lt_zero _)
  | _ :: _, [], _, _, h, _ => absurd h (Nat.not_lt_zero _)
  | r :: g, b :: s, 0, _, _, h => by
    have e : b = false := by simpa using h
    subst e
    simp [pot]
    omega
  | r :: g, b :: s, i + 1, h1, h2, h3 => by
    have := pot_set (g := g) (s := s) (i := i) (by simpa using h1) (by simpa using h2) (by simpa using h3)
    simp only [List.set_cons_succ, List.getD_cons_succ]
    unfold pot
    omega
theorem row_le : ∀ {g : List (List Int)} {i : Nat}, i < g.length → (g.getD i []).length ≤ tot g
  | [], _, h => absurd h (Nat.not_lt_zero _)
  | r :: g, 0, _ => by show r.length ≤ r.length + tot g; omega
  | r :: g, i + 1, h => by
    have := row_le (g := g) (i := i) (by simpa using h)
    rw [List.getD_cons_succ]
    show _ ≤ r.length + tot g
    omega
/-- which numbers one goes on to -/
def okB (N : Nat) (a : Int) (x : Int) : Bool := decide (0 ≤ x) && decide (x < (N : Int)) && decide (x ≠ a)
theorem okB_iff {N : Nat} {a x : Int} : okB N a x = true ↔ 0 ≤ x ∧ x < (N : Int) ∧ x ≠ a := by
  unfold okB
  rw [Bool.and_eq_true, Bool.and_eq_true, decide_eq_true_eq, decide_eq_true_eq, decide_eq_true_eq, and_assoc]
/-- what is left out -/
def outS (a : Int) (x : Nat) : Prop := (x : Int) = a
/-- the nodes that were met, and those to do -/
structure Td (g : List (List Int)) (a : Int) (seen : List Bool) (todo : List Int) : Prop where
  len : seen.length = g.length
  in1 : ∀ i, seen.getD i false = true → (gL g).Av (outS a) i
  in2 : ∀ x ∈ todo, ∃ i : Nat, x = (i : Int) ∧ (gL g).Av (outS a) i
  zero : seen.getD 0 false = true ∨ (0 : Int) ∈ todo
  on : ∀ i, seen.getD i false = true → ∀ s, (gL g).e i s → ¬ outS a s → seen.getD s false = true ∨ (s : Int) ∈ todo
theorem Td.start {g : List (List Int)} {a : Int} (hg : 0 < g.length) (ha : a ≠ 0) : Td g a (List.replicate g.length false) [0] :=
  ⟨by simp, fun i h => (by rw [rep_get] at h; cases h), fun x hx => ⟨0, List.mem_singleton.1 hx, .zero hg (fun e => ha e.symm)⟩, .inr (by simp), fun i h => (by rw [rep_get] at h; cases h)⟩
theorem Td.old {g : List (List Int)} {a : Int} {seen : List Bool} {todo : List Int} {i : Nat} (h : Td g a seen (todo ++ [(i : Int)])) (hs : seen.getD i false = true) : Td g a seen todo := by
  have key : ∀ s : Nat, (s : Int) ∈ todo ++ [(i : Int)] → seen.getD s false = true ∨ (s : Int) ∈ todo := by
    intro s hm
    rcases List.mem_append.1 hm with c | c
    · exact .inr c
    · have : s = i := by have := List.mem_singleton.1 c; omega
      rw [this]; exact .inl hs
  refine ⟨h.len, h.in1, fun x hx => h.in2 x (List.mem_append_left _ hx), ?_, fun j hj s he hn => ?_⟩
  · rcases h.zero with c | c
    · exact .inl c
    · exact key 0 c
  · rcases h.on j hj s he hn with c | c
    · exact .inl c
    · exact key s c
theorem Td.at {g : List (List Int)} {a : Int} {seen : List Bool} {todo : List Int} {x : Int} (h : Td g a seen (todo ++ [x])) : ∃ i : Nat, x = (i : Int) ∧ i < g.length ∧ (gL g).Av (outS a) i := by
  obtain ⟨i, e, hi⟩ := h.in2 x (by simp)
  exact ⟨i, e, hi.lt, hi⟩
theorem Td.new {g : List (List Int)} {a : Int} {seen : List Bool} {todo : List Int} {i : Nat} (h : Td g a seen (todo ++ [(i : Int)])) : Td g a (seen.set i true) (todo ++ (g.getD i []).filter (okB g.length a)) := by
  obtain ⟨i', e, hlt, hi⟩ := h.at
  obtain rfl : i = i' := by omega
  have hl : i < seen.length := by rw [h.len]; exact hlt
  have hle : ∀ j, seen.getD j false = true → (seen.set i true).getD j false = true := fun j hj => by rw [getD_set_t, hj, Bool.or_true]
  have hii : (seen.set i true).getD i false = true := by rw [getD_set_t]; simp [hl]
  have key : ∀ s : Nat, (s : Int) ∈ todo ++ [(i : Int)] → (seen.set i true).getD s false = true ∨ (s : Int) ∈ todo ++ (g.getD i []).filter (okB g.length a) := by
    intro s hm
    rcases List.mem_append.1 hm with c | c
    · exact .inr (List.mem_append_left _ c)
    · have : s = i := by have := List.mem_singleton.1 c; omega
      rw [this]; exact .inl hii
  refine ⟨by rw [List.length_set]; exact h.len, fun j hj => ?_, fun x hx => ?_, ?_, fun j hj s he hn => ?_⟩
  · rw [getD_set_t, Bool.or_eq_true, decide_eq_true_eq] at hj
    rcases hj with ⟨rfl, _⟩ | hj
    · exact hi
    · exact h.in1 j hj
  · rcases List.mem_append.1 hx with c | c
    · exact h.in2 x (List.mem_append_left _ c)
    · obtain ⟨c1, c2⟩ := List.mem_filter.1 c
      obtain ⟨k1, k2, k3⟩ := okB_iff.1 c2
      have ex : ((x.toNat : Nat) : Int) = x := Int.toNat_of_nonneg k1
      refine ⟨x.toNat, ex.symm, .step hi (gL_e.2 ⟨hlt, by rw [ex]; exact c1, by omega⟩) (fun c => k3 (by unfold outS at c; omega))⟩
  · rcases h.zero with c | c
    · exact .inl (hle 0 c)
    · exact key 0 c
  · rw [getD_set_t, Bool.or_eq_true, decide_eq_true_eq] at hj
    rcases hj with ⟨rfl, _⟩ | hj
    · obtain ⟨_, e2, e3⟩ := gL_e.1 he
      exact .inr (List.mem_append_right _ (List.mem_filter.2 ⟨e2, okB_iff.2 ⟨by omega, by omega, hn⟩⟩))
    · rcases h.on j hj s he hn with c | c
      · exact .inl (hle s c)
      · exact key s c
theorem Td.done {g : List (List Int)} {a : Int} {seen : List Bool} (h : Td g a seen []) (b : Nat) : seen.getD b false = true ↔ (gL g).Av (outS a) b := by
  refine ⟨h.in1 b, fun hb => ?_⟩
  induction hb with
  | zero _ _ => exact h.zero.resolve_right (fun c => by cases c)
  | step _ he hn ih => exact (h.on _ ih _ he hn).resolve_right (fun c => by cases c)
theorem take_filter_yes {l : List Int} {p : Int → Bool} {k : Nat} (hk : k < l.length) (h : p (l.getD k 0) = true) : (l.take (k + 1)).filter p = (l.take k).filter p ++ [l.getD k 0] := by
  have e : l.getD k 0 = l[k] := by rw [List.getD_eq_getElem?_getD, List.getElem?_eq_getElem hk]; rfl
  rw [List.take_add_one, List.getElem?_eq_getElem hk, List.filter_append, e]
  rw [e] at h
  show _ ++ List.filter p [l[k]] = _
  rw [List.filter_cons_of_pos h]; rfl
theorem take_filter_no {l : List Int} {p : Int → Bool} {k : Nat} (hk : k < l.length) (h : p (l.getD k 0) = false) : (l.take (k + 1)).filter p = (l.take k).filter p := by
  have e : l.getD k 0 = l[k] := by rw [List.getD_eq_getElem?_getD, List.getElem?_eq_getElem hk]; rfl
  rw [List.take_add_one, List.getElem?_eq_getElem hk, List.filter_append]
  rw [e] at h
  show _ ++ List.filter p [l[k]] = _
  rw [List.filter_cons_of_neg (by rw [h]; simp)]
  simp
/-- in the loop: what is seen, what is to do -/
structure Rs (w wr : World) (g : Nat) (seen : List Bool) (T : List Int) (q : Option Addr) (c : Nat) : Prop where
  low : Below w.heap.size w wr
  sn : Rb wr g seen
  gb : w.heap.size ≤ g
  td : wr.ownsRow w.heap.size 3 1 (.slice q T.length c) T.length (intsV T)
  ap : q.map Addr.block ≠ some g
theorem Rs.next {w W W' : World} {g : Nat} {seen : List Bool} {T : List Int} {q : Option Addr} {c : Nat} (h : Rs w W g seen T q c) (hb : Below W.heap.size W W') : Rs w W' g seen T q c :=
  ⟨below_next h.low hb, h.sn.next hb, h.gb, own_below h.td hb, h.ap⟩
theorem slice_headI (q : Option Addr) (len cap C : Nat) (h : C ≤ cap) (w : World) :
    (Instr.sliceAt 27 (.slice q len cap) none (some (.int .i64 C)) none).run Try.prog w = .ok (.slice q C cap) w ∧ (Instr.slice 27 (.slice q len cap) none (some (.int .i64 C)) none).run Try.prog w = .ok (.slice q C cap) w := by
  have e : (Instr.slice 27 (.slice q len cap) none (some (.int .i64 C)) none).run Try.prog w = .ok (.slice q C cap) w := by
    rw [run_slice_h w 27 q len cap Try.underlying27 .i64 C (by omega) (by omega)]
    have hz : (sizeOf (Try.prog.elem 27)).run Try.prog w = .ok 1 w := by kernel_rfl
    rw [hz]
    have hq : q.map (·.add 0) = q := by cases q <;> simp [Addr.add]
    simp [sliced, hq]
  exact ⟨(run_sliceAt_slice w 27 _ _ _ _ Try.underlying27).trans e, e⟩
theorem own_form {w : World} {base e size : Nat} {v : Value} {n : Nat} {xs : List Value} (h : w.ownsRow base e size v n xs) : ∃ q c, v = .slice q n c := by
  rcases h.2 with ⟨rfl, rfl⟩ | ⟨g, cap, cur, rfl, _⟩
  · exact ⟨none, 0, rfl⟩
  · exact ⟨_, _, rfl⟩
theorem own_blk (q : Option Addr) (n c : Nat) : (Value.slice q n c).ownBlock = q.map Addr.block := by
  cases q <;> rfl
/-- more to do -/
theorem Rs.app {w W W' : World} {g : Nat} {seen : List Bool} {T xs : List Int} {q q' : Option Addr} {n m c c' : Nat} (h : Rs w W g seen T q c) (hn : T.length = n) (ho : W'.ownsRow w.heap.size 3 1 (.slice q' m c') (T ++ xs).length (intsV (T ++ xs))) (hm : (T ++ xs).length = m) (hg : W.grownBy W' (Value.slice q n c).ownBlock) (hb : (Value.slice q' m c').ownBlock = (Value.slice q n c).ownBlock ∨ (Value.slice q' m c').ownBlock = some W.heap.size) : Rs w W' g seen (T ++ xs) q' c' := by
  subst hn hm
  rw [own_blk] at hg
  rw [own_blk, own_blk] at hb
  refine ⟨h.low.grown hg h.low.size (fun k hk => ?_), h.sn.grown hg h.ap, h.gb, ho, fun e => ?_⟩
  · exact (h.td.lt k (by rw [own_blk]; exact hk)).1
  · rcases hb with e2 | e2
    · exact h.ap (e2.symm.trans e)
    · rw [e] at e2
      have := h.sn.lt
      injection e2 with e2
      omega
theorem Rs.see {w W : World} {g i : Nat} {seen : List Bool} {T : List Int} {q : Option Addr} {c : Nat} (h : Rs w W g seen T q c) (hi : i < seen.length) : Rs w (W.setCell ⟨g, i, none⟩ (.bool true)) g (seen.set i true) T q c :=
  ⟨h.low.setCell (p := ⟨g, i, none⟩) h.gb _, h.sn.set hi, h.gb, own_setOther h.td (by rw [own_blk]; exact h.ap), h.ap⟩
theorem Rs.pop {w W : World} {g g6 n : Nat} {seen : List Bool} {T : List Int} {x : Int} {c : Nat} (h : Rs w W g seen (T ++ [x]) (some ⟨g6, 0, none⟩) c) (hn : T.length = n) (ho : W.ownsRow w.heap.size 3 1 (.slice (some ⟨g6, 0, none⟩) n c) n (intsV T)) : Rs w W g seen T (some ⟨g6, 0, none⟩) c := by
  subst hn
  exact ⟨h.low, h.sn, h.gb, ho, h.ap⟩
theorem Rs.start {w w1 : World} (N : Nat) (hb : Below w.heap.size w w1) :
    Rs w ((w1.alloc (.cells (madeCells #[.bool false] N) 4)).alloc (.cells #[.int .i64 0] 3)) w1.heap.size (List.replicate N false) [0] (some ⟨w1.heap.size + 1, 0, none⟩) 1 := by
  refine ⟨(hb.alloc hb.size _).alloc (by simp; have := hb.size; omega) _, ?_, hb.size, ?_, by simp⟩
  · have h : Rb (w1.alloc (.cells (madeCells #[.bool false] N) 4)) w1.heap.size (List.replicate N false) := by
      refine ⟨by simp, fun i hi => ?_, fun j => World.frozen?_alloc_new _ _ _ j⟩
      have hi' : i < N := by simpa using hi
      refine cell_new w1 ?_
      rw [List.getD_eq_getElem?_getD, List.getElem?_replicate, if_pos hi']
      simp [madeCells, hi', Nat.mod_one]
    exact h.next ((Below.refl _ _).alloc (Nat.le_refl _) _)
  · have h := World.ownsRow_lit (base := w.heap.size) (e := 3) (size := 1) (w1.alloc (.cells (madeCells #[.bool false] N) 4)) #[.int .i64 0] 1 (by simp; have := hb.size; omega) (by decide) rfl
    rw [World.size_alloc] at h
    exact h
end Go.Proofs.Ytgaacdnljkildaa
