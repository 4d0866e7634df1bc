/- States: the document's own copy of a state: the call. -/
import Derived.Test.YtdipmlamjjpcoaaSL
namespace Go.Proofs.Ytdipmlamjjpcoaa
open Go.RowKit
attribute [local go_sem] b_and b_or b_xor b_andNot b_low b_top b_most b_signed b_unsigned b_zero b_eq s_eq b_nzero b_neq s_neq b_max b_min s_max s_min
attribute [local go_sem ↓] Go.wp_at_zero Go.wp_at_succ

def CopyPost (s : Ab) (w : World) (e : Ending) (w' : World) : Prop :=
  ∃ (B : AbA) (o1 o2 o3 : Option Nat), e = .returned (.agg #[.slice B.p1 s.regs.length B.c1, .slice B.p2 s.set.length B.c2, .slice B.p3 s.saved.length B.c3]) ∧ Below w.heap.size w w' ∧ w'.ownsRow w.heap.size 33 8 (.slice B.p1 s.regs.length B.c1) s.regs.length (knV s.regs) ∧ w'.ownsRow w.heap.size 4 1 (.slice B.p2 s.set.length B.c2) s.set.length (blV s.set) ∧ w'.ownsRow w.heap.size 33 8 (.slice B.p3 s.saved.length B.c3) s.saved.length (knV s.saved) ∧ o1 = B.p1.map Addr.block ∧ o2 = B.p2.map Addr.block ∧ o3 = B.p3.map Addr.block ∧ Apt o1 o2 ∧ Apt o1 o3 ∧ Apt o2 o3
theorem Cp.zero {W0 : World} {A : AbA} {s : Ab} {n : Nat} {cs zs : List Value} (h0 : AbAt W0 A s) (h1 : Box W0 n cs) (h2 : Box W0 (n + 1) zs) (v1 u1 v2 u2 v3 u3 : Value) : Cp W0 W0 A s n 0 0 0 cs zs v1 u1 v2 u2 v3 u3 none none none :=
  ⟨Below.refl _ _, h1, h2, h0, Ch.none0, Ch.none0, Ch.none0, fun k hk => (by cases hk), fun k hk => (by cases hk), fun k hk => (by cases hk)⟩
theorem own_set {W : World} {base e size n : Nat} {v u : Value} {xs : List Value} {m i : Nat} (h : W.ownsRow base e size v n xs) (hm : m < base) : (W.setCell ⟨m, i, none⟩ u).ownsRow base e size v n xs := by
  refine h.kept (row := some m) ⟨rfl, rfl, rfl, by simp [World.setCell], fun k _ hk => Below.heap_setCell W ⟨m, i, none⟩ u k (fun e => hk (by rw [e]))⟩ ?_
  cases hv : v.ownBlock with
  | none => exact .inl rfl
  | some k => exact .inr (fun e => by have := (h.lt k hv).1; injection e; omega)
theorem own_base {W : World} {base base' e size n : Nat} {v : Value} {xs : List Value} (h : W.ownsRow base e size v n xs) (hb : base' ≤ base) : W.ownsRow base' e size v n xs := by
  refine ⟨h.1, ?_⟩
  rcases h.2 with h | ⟨g, cap, cur, h1, h2, h3⟩
  · exact .inl h
  · exact .inr ⟨g, cap, cur, h1, Nat.le_trans hb h2, h3⟩
theorem own_blk (q : Option Addr) (n c : Nat) : (Value.slice q n c).ownBlock = q.map Addr.block := by
  cases q <;> rfl
set_option maxRecDepth 100000 in
set_option maxHeartbeats 1000000 in
theorem rcopy_0 (A : AbA) (s : Ab) (w : World) (h : AbAt w A s) : Calls Try.prog 15 #[.agg #[.slice A.p1 s.regs.length A.c1, .slice A.p2 s.set.length A.c2, .slice A.p3 s.saved.length A.c3]] w (CopyPost s w) := by
  have hB1 : Box ((w.alloc (.cells #[.slice A.p1 s.regs.length A.c1, .slice A.p2 s.set.length A.c2, .slice A.p3 s.saved.length A.c3] 25)).alloc (.cells #[.slice none 0 0, .slice none 0 0, .slice none 0 0] 25)).drew w.heap.size [.slice A.p1 s.regs.length A.c1, .slice A.p2 s.set.length A.c2, .slice A.p3 s.saved.length A.c3] := ((Box.new w [.slice A.p1 s.regs.length A.c1, .slice A.p2 s.set.length A.c2, .slice A.p3 s.saved.length A.c3] 25 rfl).alloc _).drew
  have hB2 : Box ((w.alloc (.cells #[.slice A.p1 s.regs.length A.c1, .slice A.p2 s.set.length A.c2, .slice A.p3 s.saved.length A.c3] 25)).alloc (.cells #[.slice none 0 0, .slice none 0 0, .slice none 0 0] 25)).drew (w.heap.size + 1) [.slice none 0 0, .slice none 0 0, .slice none 0 0] := (Box.new (w.alloc _) [.slice none 0 0, .slice none 0 0, .slice none 0 0] 25 (World.size_alloc _ _)).drew
  have hA : AbAt ((w.alloc (.cells #[.slice A.p1 s.regs.length A.c1, .slice A.p2 s.set.length A.c2, .slice A.p3 s.saved.length A.c3] 25)).alloc (.cells #[.slice none 0 0, .slice none 0 0, .slice none 0 0] 25)).drew A s := ((h.alloc _).alloc _).below (Below.refl _ _).drew
  have hbw : Below w.heap.size w ((w.alloc (.cells #[.slice A.p1 s.regs.length A.c1, .slice A.p2 s.set.length A.c2, .slice A.p3 s.saved.length A.c3] 25)).alloc (.cells #[.slice none 0 0, .slice none 0 0, .slice none 0 0] 25)).drew := b2.drew
  go_enter Try.func15, Try.ntmps15
  go_wp2
  rename_i K hK
  generalize ((w.alloc (.cells #[.slice A.p1 s.regs.length A.c1, .slice A.p2 s.set.length A.c2, .slice A.p3 s.saved.length A.c3] 25)).alloc (.cells #[.slice none 0 0, .slice none 0 0, .slice none 0 0] 25)) = W1 at *
  refine wp_region_held_drew (S := fun W => Box W w.heap.size [.slice A.p1 s.regs.length A.c1, .slice A.p2 s.set.length A.c2, .slice A.p3 s.saved.length A.c3]) (by kernel_rfl) hB1 (fun hHeld => ?_)
  refine takeYes (i := 1) (v := ?v1) (some 4) rfl rfl (by kernel_rfl) (by kernel_rfl) (by kernel_rfl) (fun _ _ _ h => h) (by rfl) ?y1 hHeld ?r1
  case y1 =>
    intro w hSw
    try dsimp only at hSw
    obtain ⟨⟨q0, q1, q2⟩, q3, q4⟩ := hSw.three
    go_simp
    try (with_reducible rfl)
  case r1 =>
  try simp only [Act.put, List.setIfInBounds_toArray, List.set_cons_zero, List.set_cons_succ]
  refine takeYes (i := 2) (v := ?v2) (some 5) rfl rfl (by kernel_rfl) (by kernel_rfl) (by kernel_rfl) (fun _ _ _ h => h) (by rfl) ?y2 hHeld ?r2
  case y2 =>
    intro w hSw
    try dsimp only at hSw
    obtain ⟨⟨q0, q1, q2⟩, q3, q4⟩ := hSw.three
    go_simp
    try (with_reducible rfl)
  case r2 =>
  try simp only [Act.put, List.setIfInBounds_toArray, List.set_cons_zero, List.set_cons_succ]
  refine takeYes (i := 5) (v := ?v5) (some 8) rfl rfl (by kernel_rfl) (by kernel_rfl) (by kernel_rfl) (fun _ _ _ h => h) (by rfl) ?y5 hHeld ?r5
  case y5 =>
    intro w hSw
    try dsimp only at hSw
    obtain ⟨⟨q0, q1, q2⟩, q3, q4⟩ := hSw.three
    go_simp
    try (with_reducible rfl)
  case r5 =>
  try simp only [Act.put, List.setIfInBounds_toArray, List.set_cons_zero, List.set_cons_succ]
  refine takeYes (i := 6) (v := ?v6) (some 9) rfl rfl (by kernel_rfl) (by kernel_rfl) (by kernel_rfl) (fun _ _ _ h => h) (by rfl) ?y6 hHeld ?r6
  case y6 =>
    intro w hSw
    try dsimp only at hSw
    obtain ⟨⟨q0, q1, q2⟩, q3, q4⟩ := hSw.three
    go_simp
    try (with_reducible rfl)
  case r6 =>
  try simp only [Act.put, List.setIfInBounds_toArray, List.set_cons_zero, List.set_cons_succ]
  refine takeYes (i := 9) (v := ?v9) (some 12) rfl rfl (by kernel_rfl) (by kernel_rfl) (by kernel_rfl) (fun _ _ _ h => h) (by rfl) ?y9 hHeld ?r9
  case y9 =>
    intro w hSw
    try dsimp only at hSw
    obtain ⟨⟨q0, q1, q2⟩, q3, q4⟩ := hSw.three
    go_simp
    try (with_reducible rfl)
  case r9 =>
  try simp only [Act.put, List.setIfInBounds_toArray, List.set_cons_zero, List.set_cons_succ]
  refine takeYes (i := 10) (v := ?v10) (some 13) rfl rfl (by kernel_rfl) (by kernel_rfl) (by kernel_rfl) (fun _ _ _ h => h) (by rfl) ?y10 hHeld ?r10
  case y10 =>
    intro w hSw
    try dsimp only at hSw
    obtain ⟨⟨q0, q1, q2⟩, q3, q4⟩ := hSw.three
    go_simp
    try (with_reducible rfl)
  case r10 =>
  try simp only [Act.put, List.setIfInBounds_toArray, List.set_cons_zero, List.set_cons_succ]
  refine cp_wp W1.drew A s w.heap.size hA hB2.lt _ _ _ _ _ _ _ ?_ 6 0 0 0 undef undef undef undef undef undef undef none none none W1.drew rfl (by omega) (by omega) (by omega) (Cp.zero hA hB1 hB2 _ _ _ _ _ _)
  intro v1 u1 v2 u2 v3 u3 c15 o1 o2 o3 W hC
  refine cp_end W1.drew A s w.heap.size _ _ _ _ _ _ (.slice none 0 0) (.slice none 0 0) (.slice none 0 0) v1 u1 v2 u2 v3 u3 c15 o1 o2 o3 W hC ?_
  refine hK _ _ ?_
  obtain ⟨q1, k1, rfl⟩ := own_form hC.c1.at2.1
  obtain ⟨q2, k2, rfl⟩ := own_form hC.c2.at2.1
  obtain ⟨q3, k3, rfl⟩ := own_form hC.c3.at2.1
  have hz := hB2.lt
  have hsz : w.heap.size ≤ W1.drew.heap.size := hbw.size
  have hx := ((hC.res.set (i := 0) (by simp) (.slice q1 s.regs.length k1)).set (i := 1) (by simp) (.slice q2 s.set.length k2)).set (i := 2) (by simp) (.slice q3 s.saved.length k3)
  have f0 := hx.cell 0 _ rfl
  have f1 := hx.cell 1 _ rfl
  have f2 := hx.cell 2 _ rfl
  have hlow : Below w.heap.size w (((W.setCell ⟨w.heap.size + 1, 0, none⟩ (.slice q1 s.regs.length k1)).setCell ⟨w.heap.size + 1, 1, none⟩ (.slice q2 s.set.length k2)).setCell ⟨w.heap.size + 1, 2, none⟩ (.slice q3 s.saved.length k3)) :=
    (((hbw.trans (hC.low.mono hsz)).setCell (p := ⟨w.heap.size + 1, 0, none⟩) (Nat.le_succ _) _).setCell (p := ⟨w.heap.size + 1, 1, none⟩) (Nat.le_succ _) _).setCell (p := ⟨w.heap.size + 1, 2, none⟩) (Nat.le_succ _) _
  have g1 := own_base (own_set (i := 2) (u := .slice q3 s.saved.length k3) (own_set (i := 1) (u := .slice q2 s.set.length k2) (own_set (i := 0) (u := .slice q1 s.regs.length k1) hC.c1.at2.1 hz) hz) hz) hsz
  have g2 := own_base (own_set (i := 2) (u := .slice q3 s.saved.length k3) (own_set (i := 1) (u := .slice q2 s.set.length k2) (own_set (i := 0) (u := .slice q1 s.regs.length k1) hC.c2.at2.1 hz) hz) hz) hsz
  have g3 := own_base (own_set (i := 2) (u := .slice q3 s.saved.length k3) (own_set (i := 1) (u := .slice q2 s.set.length k2) (own_set (i := 0) (u := .slice q1 s.regs.length k1) hC.c3.at2.1 hz) hz) hz) hsz
  refine wp_ret (bodyPost_ret (v := .agg #[.slice q1 s.regs.length k1, .slice q2 s.set.length k2, .slice q3 s.saved.length k3]) ?_ rfl ⟨⟨q1, q2, q3, k1, k2, k3⟩, o1, o2, o3, rfl, hlow, g1, g2, g3, hC.c1.at2.2.trans (own_blk _ _ _), hC.c2.at2.2.trans (own_blk _ _ _), hC.c3.at2.2.trans (own_blk _ _ _), hC.a12, hC.a13, hC.a23⟩)
  clear g1 g2 g3 hlow hx hC hK hA hB1 hB2 h
  generalize (((W.setCell ⟨w.heap.size + 1, 0, none⟩ (.slice q1 s.regs.length k1)).setCell ⟨w.heap.size + 1, 1, none⟩ (.slice q2 s.set.length k2)).setCell ⟨w.heap.size + 1, 2, none⟩ (.slice q3 s.saved.length k3)) = W9 at *
  generalize s.regs.length = N1 at *
  generalize s.set.length = N2 at *
  generalize s.saved.length = N3 at *
  simp [results, Try.results15, go_sem, frC, f0, f1, f2]
end Go.Proofs.Ytdipmlamjjpcoaa
