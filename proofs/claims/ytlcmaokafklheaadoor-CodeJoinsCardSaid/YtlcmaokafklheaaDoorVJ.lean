/- Two programs, one behind the other; CodeJoins. -/
import Derived.Test.YtlcmaokafklheaaDoorV
import Derived.Test.YtlcmaokafklheaaDoorP4
namespace Go.Proofs.YtlcmaokafklheaaDoor
open Go.RowKit M

theorem InsAt.src {w : World} {q : Option Addr} {l : List In} (h : InsAt w q l) (hp : 0 < l.length) : ∃ ad, q = some ad ∧ ∀ j u, (flatV l)[j]? = some u → w.cell? (ad.add j) = some u := by
  obtain ⟨b, off, rfl, _⟩ := h.cells 0 hp
  refine ⟨_, rfl, fun j u hu => ?_⟩
  have hj : j < l.length * 6 := by
    have := (List.getElem?_eq_some_iff.1 hu).1
    rwa [flatV_length] at this
  obtain ⟨b', off', e, _, c0, c1, c2, c3, c4, c5⟩ := h.cells (j / 6) (by omega)
  injection e with e
  injection e with e1 e2
  subst e1 e2
  have hd : (⟨b, off, none⟩ : Addr).add j = ⟨b, off + j, none⟩ := by
    by_cases h0 : j = 0
    · subst h0; simp [Addr.add]
    · simp [Addr.add, h0]
  rw [hd]
  have hj' : j = j / 6 * 6 + j % 6 := by omega
  rw [hj', flatV_get (by omega) (by omega)] at hu
  rw [hj']
  have hr : j % 6 < 6 := Nat.mod_lt _ (by omega)
  generalize j / 6 = i at *
  generalize j % 6 = r at *
  clear hj hj' hd
  have e : r = 0 ∨ r = 1 ∨ r = 2 ∨ r = 3 ∨ r = 4 ∨ r = 5 := by omega
  rcases e with rfl | rfl | rfl | rfl | rfl | rfl <;> (simp only [cellsI] at hu; simp at hu; subst hu)
  · simpa using c0
  · simpa [Nat.add_assoc] using c1
  · simpa [Nat.add_assoc] using c2
  · simpa [Nat.add_assoc] using c3
  · simpa [Nat.add_assoc] using c4
  · simpa [Nat.add_assoc] using c5
theorem decS_pos {xs : List Int} {l : List In} (h : decS xs = (l, 0)) : 0 < xs.length ∧ 0 < l.length ∧ l.length * 8 ≤ xs.length := by
  unfold decS at h
  split at h
  · simp at h
  split at h
  · simp at h
  split at h
  case isFalse => simp at h
  · injection h with h _
    have : l.length = xs.length / 8 := by rw [← h, decL_length]
    omega
theorem own_empty (w : World) (e : TypeId) (size : Nat) (B : Nat) (hB : B ≤ w.heap.size) : (w.alloc (.cells #[] e)).ownsRow B e size (.slice (some ⟨w.heap.size, 0, none⟩) 0 0) 0 [] :=
  ⟨by simp, .inr ⟨w.heap.size, 0, #[], rfl, hB, heap_alloc_new w _, Nat.le_refl _, Nat.zero_le _, by simp, by simp⟩⟩
set_option maxHeartbeats 4000000 in
theorem joins_bad (q p : Option Addr) (qc pc : Nat) (xs ys : List Int) (w : World) (h : RowAt w q xs) (hc : xs.length ≤ qc) (h' : RowAt w p ys) (hc' : ys.length ≤ pc) (hE : Env w)
    (hbad : ¬ ((decS xs).2 = 0 ∧ (decS ys).2 = 0 ∧ xs.length ≤ 1000 ∧ ys.length ≤ 1000)) :
    Calls Tryd.prog 7 #[.slice q xs.length qc, .slice p ys.length pc] w fun e w' => e = .returned (.bool true) ∧ Below w.heap.size w w' := by
  have H1 := Lib.hid (fun W hW hE => decode_any q qc xs W hW hc hE)
  have H2 := Lib.hid (fun W hW hE => decode_any p pc ys W hW hc' hE)
  have H := Lib.hid h
  have G := Lib.hid h'
  have E0 := Lib.hid hE
  unfold DecR at H1 H2
  generalize decS xs = D at *
  generalize decS ys = D' at *
  obtain ⟨l, c⟩ := D
  obtain ⟨m, d⟩ := D'
  generalize xs.length = N at *
  generalize ys.length = M at *
  dsimp only at hbad
  clear h h' hE hc hc'
  by_cases hc0 : c = 0
  · subst hc0
    by_cases hd0 : d = 0
    · subst hd0
      by_cases hN : 1000 < N
      · clear hbad
        go_enter Tryd.func7, Tryd.ntmps7
        have tok1 : True := trivial
        go_wp2_with (first
          | (go_at_call 9; have _t := tok1; refine (H1.out _ H.out E0.out).mono ?_; rintro e w1 ⟨p1, c1, rfl, hI1, hb1⟩; have B1 := Lib.hid hb1; clear tok1 hb1 hI1)
          | (go_at_call 9; refine (H2.out _ (G.out.below B1.out) (E0.out.below B1.out)).mono ?_; rintro e w2 ⟨p2, c2, rfl, hI2, hb2⟩; have B2 := Lib.hid (below_next B1.out hb2); clear hb2 hI2)
          | (go_at_call 12; refine (heads_any _ (E0.out.below B2.out)).mono ?_; rintro e w4 ⟨rfl, hb4⟩; have B4 := Lib.hid (below_next B2.out hb4); clear hb4))
        go_ret
        exact ⟨rfl, B4.out⟩
      · have hM : 1000 < M := by omega
        clear hbad
        go_enter Tryd.func7, Tryd.ntmps7
        have tok1 : True := trivial
        go_wp2_with (first
          | (go_at_call 9; have _t := tok1; refine (H1.out _ H.out E0.out).mono ?_; rintro e w1 ⟨p1, c1, rfl, hI1, hb1⟩; have B1 := Lib.hid hb1; clear tok1 hb1 hI1)
          | (go_at_call 9; refine (H2.out _ (G.out.below B1.out) (E0.out.below B1.out)).mono ?_; rintro e w2 ⟨p2, c2, rfl, hI2, hb2⟩; have B2 := Lib.hid (below_next B1.out hb2); clear hb2 hI2)
          | (go_at_call 12; refine (heads_any _ (E0.out.below B2.out)).mono ?_; rintro e w4 ⟨rfl, hb4⟩; have B4 := Lib.hid (below_next B2.out hb4); clear hb4))
        go_ret
        exact ⟨rfl, B4.out⟩
    · have hne : (d != 0) = true := by simpa using hd0
      clear hd0 hbad
      go_enter Tryd.func7, Tryd.ntmps7
      have tok1 : True := trivial
      go_wp2_with (first
        | (go_at_call 9; have _t := tok1; refine (H1.out _ H.out E0.out).mono ?_; rintro e w1 ⟨p1, c1, rfl, hI1, hb1⟩; have B1 := Lib.hid hb1; clear tok1 hb1 hI1)
        | (go_at_call 9; refine (H2.out _ (G.out.below B1.out) (E0.out.below B1.out)).mono ?_; rintro e w2 ⟨p2, c2, rfl, hI2, hb2⟩; have B2 := Lib.hid (below_next B1.out hb2); clear hb2 hI2)
        | (go_at_call 12; refine (heads_any _ (E0.out.below B2.out)).mono ?_; rintro e w4 ⟨rfl, hb4⟩; have B4 := Lib.hid (below_next B2.out hb4); clear hb4))
      go_ret
      exact ⟨rfl, B4.out⟩
  · have hne : (c != 0) = true := by simpa using hc0
    clear hc0 hbad
    go_enter Tryd.func7, Tryd.ntmps7
    have tok1 : True := trivial
    go_wp2_with (first
      | (go_at_call 9; have _t := tok1; refine (H1.out _ H.out E0.out).mono ?_; rintro e w1 ⟨p1, c1, rfl, hI1, hb1⟩; have B1 := Lib.hid hb1; clear tok1 hb1 hI1)
      | (go_at_call 9; refine (H2.out _ (G.out.below B1.out) (E0.out.below B1.out)).mono ?_; rintro e w2 ⟨p2, c2, rfl, hI2, hb2⟩; have B2 := Lib.hid (below_next B1.out hb2); clear hb2 hI2)
      | (go_at_call 12; refine (heads_any _ (E0.out.below B2.out)).mono ?_; rintro e w4 ⟨rfl, hb4⟩; have B4 := Lib.hid (below_next B2.out hb4); clear hb4))
    go_ret
    exact ⟨rfl, B4.out⟩
theorem wpList_append_own_w {P : Program} {w : World} {ops : Array Oper} {rest : List Oper} {o : Oper} {a : Act} {Q : Exit → Act → World → Prop} (hw : Region.wanted o (yielded ops a.tmps) = true) (s x : Operand) (t : TypeId)
    (ho : o.op = .call { callee := .builtin .append, args := #[s, x], argTypes := #[t, t] })
    (base : Nat) (e : TypeId) (i : TypeInfo) (z : Value) (size bytes : Nat) (ht : P.underlying t = some (.slice e)) (hi : P.info? e = some i) (hz : i.zero = some z)
    (hsize : i.size = size) (hby : i.bytes = bytes) (hzs : z.cells.size = size) (hsz : 0 < size)
    (v : Value) (n : Nat) (xs : List Value) (hs : a.eval s = v) (hown : w.ownsRow base e size v n xs)
    (ad : Addr) (m c : Nat) (news : List Value) (hx : a.eval x = .slice (some ad) m c) (hl : news.length = m * size) (hnews : ∀ j u, news[j]? = some u → w.cell? (ad.add j) = some u) (h1 : ∀ u ∈ news, u.oneCell' = true)
    (h63 : n + m ≤ maxLen) (hbytes : (n + m) * bytes ≤ 140737488355328) (hbase : base ≤ w.heap.size)
    (h : ∀ v' w', w'.ownsRow base e size v' (n + m) (xs ++ news) → w.grownBy w' v.ownBlock → wpList P ops Q rest (a.put o.dst v') w') : wpList P ops Q (o :: rest) a w :=
  BigFrame.wpList_want hw fun _ hK => wp_append_own w s x t ho base e i z size bytes ht hi hz hsize hby hzs hsz v n xs hs hown ad m c news hx hl hnews h1 h63 hbytes hbase fun v' w' h2 h3 _ => hK _ _ (h v' w' h2 h3)
theorem row_own2 {w : World} {base n : Nat} {v : Value} {xs : List Int} (hn : 0 < n) (hl : xs.length = n) (hs : n ≤ 140737488351232) (hb : ∀ j, j < xs.length → 0 ≤ xs.getD j 0 ∧ xs.getD j 0 < 256) (h : w.ownsRow base 5 1 v n (bytesV xs)) :
    ∃ g cap, v = .slice (some ⟨g, 0, none⟩) n cap ∧ RowAt w (some ⟨g, 0, none⟩) xs ∧ n ≤ cap := by
  obtain ⟨g, cap, cur, hv, _, hg, hc, _, _, hcell⟩ := owns_cells h hn
  refine ⟨g, cap, hv, ⟨by omega, fun j hj => ⟨g, 0, rfl, hg, ?_⟩, hb⟩, hc⟩
  rw [Nat.zero_add]
  exact hcell j _ (by omega) (by simp [bytesV, hj])
theorem getD_app {α : Type} (xs ys : List α) (j : Nat) (d : α) : (xs ++ ys).getD j d = if j < xs.length then xs.getD j d else ys.getD (j - xs.length) d := by
  simp only [List.getD_eq_getElem?_getD]
  split
  · rw [List.getElem?_append_left (by assumption)]
  · rw [List.getElem?_append_right (by omega)]
theorem srcA {w : World} {ad : Addr} {xs : List Int} (h : RowAt w (some ad) xs) : ∀ j v, (bytesV xs)[j]? = some v → w.cell? (ad.add j) = some v := by
  intro j v hv
  have hj : j < xs.length := by
    have := (List.getElem?_eq_some_iff.1 hv).1
    rwa [bytesV_length] at this
  obtain ⟨ad', e, hc⟩ := h.src (by omega)
  injection e with e
  subst e
  exact hc j v hv
theorem srcI {w : World} {ad : Addr} {l : List In} (h : InsAt w (some ad) l) : ∀ j u, (flatV l)[j]? = some u → w.cell? (ad.add j) = some u := by
  intro j u hu
  have hj : j < l.length * 6 := by
    have := (List.getElem?_eq_some_iff.1 hu).1
    rwa [flatV_length] at this
  obtain ⟨ad', e, hc⟩ := h.src (by omega)
  injection e with e
  subst e
  exact hc j u hu
theorem joined {w : World} {B N M : Nat} {v : Value} {xs ys : List Int} (h : w.ownsRow B 5 1 v (0 + N + M) ([] ++ bytesV xs ++ bytesV ys)) (hl : (xs ++ ys).length = N + M) (hp : 0 < N) (hN : N ≤ 1000) (hM : M ≤ 1000)
    (hb : ∀ j, j < (xs ++ ys).length → 0 ≤ (xs ++ ys).getD j 0 ∧ (xs ++ ys).getD j 0 < 256) :
    ∃ g cap, v = .slice (some ⟨g, 0, none⟩) (N + M) cap ∧ RowAt w (some ⟨g, 0, none⟩) (xs ++ ys) ∧ N + M ≤ cap := by
  rw [List.nil_append, Nat.zero_add, show bytesV xs ++ bytesV ys = bytesV (xs ++ ys) by simp [bytesV]] at h
  exact row_own2 (by omega) hl (by omega) hb h
theorem joinedI {w : World} {B N M : Nat} {v : Value} {l m : List In} (h : w.ownsRow B 38 6 v (0 + N + M) ([] ++ flatV l ++ flatV m)) (hl : (l ++ m).length = N + M) (hp : 0 < N) (hN : N ≤ 1000) (hM : M ≤ 1000)
    (hb : ∀ i, i < (l ++ m).length → Bd ((l ++ m).getD i z)) :
    ∃ g cap, v = .slice (some ⟨g, 0, none⟩) (N + M) cap ∧ InsAt w (some ⟨g, 0, none⟩) (l ++ m) := by
  rw [List.nil_append, Nat.zero_add, ← flatV_append] at h
  exact owns6 h (by omega) hl (by omega) hb
theorem bd_app {l m : List In} (h1 : ∀ i, i < l.length → Bd (l.getD i z)) (h2 : ∀ i, i < m.length → Bd (m.getD i z)) : ∀ i, i < (l ++ m).length → Bd ((l ++ m).getD i z) := fun i hi => by
  rw [List.length_append] at hi
  rw [getD_app]
  split
  · exact h1 i (by assumption)
  · exact h2 _ (by omega)
theorem bytesV_len {xs : List Int} {N : Nat} (h : N = xs.length) : (bytesV xs).length = N * 1 := by rw [bytesV_length, h, Nat.mul_one]
theorem flatV_len {l : List In} {N : Nat} (h : N = l.length) : (flatV l).length = N * 6 := by rw [flatV_length, h]
theorem max_small {n : Nat} (h : n ≤ 4000) : n ≤ maxLen := by simp only [maxLen]; omega
theorem growB {w w2 w' : World} {n size : Nat} {e : TypeId} {v : Value} {xs : List Value} (hb : Below w.heap.size w w2) (ho : w2.ownsRow w.heap.size e size v n xs) (hg : w2.grownBy w' v.ownBlock) : Below w.heap.size w w' :=
  hb.grown hg hb.size (own_ge ho)
theorem alloc_own (w : World) (o : Obj) : Below w.heap.size w (w.alloc o) := (Below.refl _ _).alloc (Nat.le_refl _) o
set_option maxRecDepth 100000 in
set_option maxHeartbeats 4000000 in
theorem joins_good (q p : Option Addr) (qc pc : Nat) (xs ys : List Int) (l m : List In) (w : World) (h : RowAt w q xs) (hc : xs.length ≤ qc) (h' : RowAt w p ys) (hc' : ys.length ≤ pc) (hE : Env w)
    (hd1 : decS xs = (l, 0)) (hd2 : decS ys = (m, 0)) (hN : xs.length ≤ 1000) (hM : ys.length ≤ 1000) :
    Calls Tryd.prog 7 #[.slice q xs.length qc, .slice p ys.length pc] w fun e w' => e = .returned (.bool true) ∧ Below w.heap.size w w' := by
  have H1 := Lib.hid (fun W hW hE => decode_any q qc xs W hW hc hE)
  have H2 := Lib.hid (fun W hW hE => decode_any p pc ys W hW hc' hE)
  have H3 := Lib.hid (fun q qc W hW hc hE => decode_any q qc (xs ++ ys) W hW hc hE)
  have H := Lib.hid h
  have G := Lib.hid h'
  have E0 := Lib.hid hE
  unfold DecR at H1 H2 H3
  obtain ⟨hp1, hl1, hm1⟩ := decS_pos hd1
  obtain ⟨hp2, hl2, hm2⟩ := decS_pos hd2
  rw [hd1] at H1
  rw [hd2] at H2
  rw [joins hd1 hd2 hN hM] at H3
  dsimp only at H1 H2 H3
  have HS := Lib.hid (fun p q c d W h1 h2 => same_eq p q c d (l ++ m) W h1 h2)
  rw [List.length_append] at H3 HS
  have hby : ∀ j, j < (xs ++ ys).length → 0 ≤ (xs ++ ys).getD j 0 ∧ (xs ++ ys).getD j 0 < 256 := fun j hj => by
    rw [List.length_append] at hj
    rw [getD_app]
    split
    · exact h.byte j (by assumption)
    · exact h'.byte _ (by omega)
  have hb1 := h.src hp1
  have hb2 := h'.src hp2
  have hL2 : (l ++ m).length = l.length + m.length := List.length_append
  have hX2 : (xs ++ ys).length = xs.length + ys.length := List.length_append
  obtain ⟨N, hN'⟩ : ∃ N, N = xs.length := ⟨_, rfl⟩
  obtain ⟨M, hM'⟩ : ∃ M, M = ys.length := ⟨_, rfl⟩
  obtain ⟨L, hL'⟩ : ∃ L, L = l.length := ⟨_, rfl⟩
  obtain ⟨K, hK'⟩ : ∃ K, K = m.length := ⟨_, rfl⟩
  rw [hL2, ← hL', ← hK', ← hN', ← hM'] at H3
  rw [← hL', ← hK'] at HS
  rw [← hN', ← hL'] at H1
  rw [← hM', ← hK'] at H2
  rw [← hN'] at hN hp1 hm1 ⊢
  rw [← hM'] at hM hp2 hm2 ⊢
  rw [← hL'] at hl1 hm1
  rw [← hK'] at hl2 hm2
  rw [← hN', ← hM'] at hX2
  rw [← hL', ← hK'] at hL2
  have LN := Lib.hid hN'
  have LM := Lib.hid hM'
  have LL := Lib.hid hL'
  have LK := Lib.hid hK'
  have LX := Lib.hid hX2
  have LZ := Lib.hid hL2
  have HBY := Lib.hid hby
  have BY1 := Lib.hid h.byte
  have BY2 := Lib.hid h'.byte
  obtain ⟨ad, rfl, _⟩ := hb1
  obtain ⟨ae, rfl, _⟩ := hb2
  clear h h' hE hc hc' hd1 hd2 hN' hM' hL' hK' hby hX2 hL2
  obtain ⟨i5, h5, g5, s5, b5⟩ := info_parts info5
  have A5 := Lib.hid h5
  have G5 := Lib.hid g5
  have S5 := Lib.hid s5
  have T5 := Lib.hid b5
  obtain ⟨i38, h38, g38, s38, b38⟩ := info_parts info38
  have A38 := Lib.hid h38
  have G38 := Lib.hid g38
  have S38 := Lib.hid s38
  have T38 := Lib.hid b38
  clear h5 g5 s5 b5 h38 g38 s38 b38
  go_enter Tryd.func7, Tryd.ntmps7
  have tok1 : True := trivial
  go_wp2_with (first
    | (go_at_call 9; have _t := tok1; refine (H1.out _ H.out E0.out).mono ?_; rintro e w1 ⟨p1, c1, rfl, hI1, hb1⟩
       have hq1 := hI1.src (by rw [← LL.out]; exact hl1)
       obtain ⟨ap, rfl, _⟩ := hq1
       have B1 := Lib.hid hb1; have I1 := Lib.hid hI1; have tok2 : True := trivial; clear tok1 hb1 hI1)
    | (go_at_call 9; have _t := tok2; refine (H2.out _ (G.out.below B1.out) (E0.out.below B1.out)).mono ?_; rintro e w2 ⟨p2, c2, rfl, hI2, hb2⟩
       have hq2 := hI2.src (by rw [← LK.out]; exact hl2)
       obtain ⟨aq, rfl, _⟩ := hq2
       have B2 := Lib.hid (below_next B1.out hb2); have J1 := Lib.hid (I1.out.below hb2); have J2 := Lib.hid hI2; have G1 := Lib.hid (H.out.below (below_next B1.out hb2)); have G2 := Lib.hid (G.out.below (below_next B1.out hb2)); have tok3 : True := trivial; clear tok2 hb2 hI2)
    | (at_builtin; have _t := tok3; refine wpList_append_own _ rfl (.tmp 39) (.tmp 40) 22 rfl w2.heap.size 5 i5 _ 1 1 Tryd.underlying22 A5.out G5.out S5.out T5.out rfl (by decide) _ _ _ rfl (own_empty w2 5 1 w2.heap.size (Nat.le_refl _)) ad N qc (bytesV xs) rfl (bytesV_len LN.out) (srcA (G1.out.alloc _)) (bytesV_one _) (max_small (by omega)) (by omega) (alloc_own w2 _).size ?_
       intro v3 w3 hown3 hg3 _
       have B3 := Lib.hid (growB (alloc_own w2 _) (own_empty w2 5 1 w2.heap.size (Nat.le_refl _)) hg3); have HO3 := Lib.hid hown3; have tok4 : True := trivial; clear tok3 hown3 hg3)
    | (at_builtin; have _t := tok4; refine wpList_append_own _ rfl (.tmp 41) (.tmp 42) 22 rfl w2.heap.size 5 i5 _ 1 1 Tryd.underlying22 A5.out G5.out S5.out T5.out rfl (by decide) _ _ _ rfl HO3.out ae M pc (bytesV ys) rfl (bytesV_len LM.out) (srcA (G2.out.below B3.out)) (bytesV_one _) (max_small (by omega)) (by omega) B3.out.size ?_
       intro v4 w4 hown4 hg4 _
       have hb4 := growB B3.out HO3.out hg4
       obtain ⟨g4, cap4, rfl, hr4, hc4⟩ := joined hown4 LX.out hp1 hN hM HBY.out
       have B4 := Lib.hid hb4; have R4 := Lib.hid hr4; have C4 := Lib.hid hc4; have E4 := Lib.hid ((E0.out.below B2.out).below hb4); have tok5 : True := trivial; clear tok4 hown4 hg4 hb4 hr4 hc4)
    | (go_at_call 9; have _t := tok5; refine (H3.out _ _ _ R4.out C4.out E4.out).mono ?_; rintro e w5 ⟨p5, c5, rfl, hI5, hb5⟩
       have B5 := Lib.hid (below_next B4.out hb5); have I5 := Lib.hid hI5; have K1 := Lib.hid (J1.out.below (below_next B4.out hb5)); have K2 := Lib.hid (J2.out.below (below_next B4.out hb5)); have tok6 : True := trivial; clear tok5 hb5 hI5)
    | (at_builtin; have _t := tok6; refine wpList_append_own_w (by rfl) (.tmp 51) (.tmp 52) 23 rfl w5.heap.size 38 i38 _ 6 48 Tryd.underlying23 A38.out G38.out S38.out T38.out rfl (by decide) _ _ _ rfl (own_empty w5 38 6 w5.heap.size (Nat.le_refl _)) ap L c1 (flatV l) rfl (flatV_len LL.out) (srcI (K1.out.below (alloc_own w5 _))) (flatV_one _) (max_small (by omega)) (by omega) (alloc_own w5 _).size ?_
       intro v6 w6 hown6 hg6
       have B6 := Lib.hid (growB (alloc_own w5 _) (own_empty w5 38 6 w5.heap.size (Nat.le_refl _)) hg6); have HO6 := Lib.hid hown6; have tok7 : True := trivial; clear tok6 hown6 hg6)
    | (at_builtin; have _t := tok7; refine wpList_append_own_w (by rfl) (.tmp 53) (.tmp 54) 23 rfl w5.heap.size 38 i38 _ 6 48 Tryd.underlying23 A38.out G38.out S38.out T38.out rfl (by decide) _ _ _ rfl HO6.out aq K c2 (flatV m) rfl (flatV_len LK.out) (srcI (K2.out.below B6.out)) (flatV_one _) (max_small (by omega)) (by omega) B6.out.size ?_
       intro v7 w7 hown7 hg7
       have hb7 := growB B6.out HO6.out hg7
       obtain ⟨g7, cap7, rfl, hr7⟩ := joinedI hown7 LZ.out hl1 (by omega) (by omega) (bd_app J1.out.bd J2.out.bd)
       have B7 := Lib.hid hb7; have R7 := Lib.hid hr7; have tok8 : True := trivial; clear tok7 hown7 hg7 hb7 hr7)
    | (go_at_call 11; have _t := tok8; rw [LZ.out]; refine (HS.out _ _ _ _ _ (I5.out.below B7.out) R7.out).mono ?_; rintro e w8 ⟨rfl, hb8⟩; have B8 := Lib.hid (below_next B2.out (below_next B5.out (below_next B7.out hb8))); clear tok8 hb8)
    | (go_at_call 11; have _t := tok8; refine (HS.out _ _ _ _ _ (I5.out.below B7.out) R7.out).mono ?_; rintro e w8 ⟨rfl, hb8⟩; have B8 := Lib.hid (below_next B2.out (below_next B5.out (below_next B7.out hb8))); clear tok8 hb8)
    | (go_at_call 12; refine (heads_any _ (E0.out.below B8.out)).mono ?_; rintro e w9 ⟨rfl, hb9⟩; have B9 := Lib.hid (below_next B8.out hb9); clear hb9))
  go_ret
  exact ⟨rfl, B9.out⟩
theorem joins_any (q p : Option Addr) (qc pc : Nat) (xs ys : List Int) (w : World) (h : RowAt w q xs) (hc : xs.length ≤ qc) (h' : RowAt w p ys) (hc' : ys.length ≤ pc) (hE : Env w) :
    Calls Tryd.prog 7 #[.slice q xs.length qc, .slice p ys.length pc] w fun e w' => e = .returned (.bool true) ∧ Below w.heap.size w w' := by
  by_cases hg : (decS xs).2 = 0 ∧ (decS ys).2 = 0 ∧ xs.length ≤ 1000 ∧ ys.length ≤ 1000
  · obtain ⟨h1, h2, h3, h4⟩ := hg
    exact joins_good q p qc pc xs ys (decS xs).1 (decS ys).1 w h hc h' hc' hE (Prod.ext rfl h1) (Prod.ext rfl h2) h3 h4
  · exact joins_bad q p qc pc xs ys w h hc h' hc' hE hg
end Go.Proofs.YtlcmaokafklheaaDoor
