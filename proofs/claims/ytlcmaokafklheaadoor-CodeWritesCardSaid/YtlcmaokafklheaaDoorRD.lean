/- Contracts of the document's own Decode. -/
import Derived.Test.YtlcmaokafklheaaDoorP2
namespace Go.Proofs.YtlcmaokafklheaaDoor
open Go.RowKit M

set_option maxHeartbeats 1000000 in
theorem rdec_none (q : Option Addr) (qc : Nat) (N : Nat) (w : World) (hN : N ≤ 140737488351232) (h : N = 0 ∨ N % 8 ≠ 0) :
    Calls Tryd.prog 10 #[.slice q N qc] w fun e w' => e = .returned (.tuple #[.slice none 0 0, .int .i64 30]) ∧ w = w' := by
  by_cases h0 : N = 0
  · subst h0
    clear h
    go_enter Tryd.func10, Tryd.ntmps10
    go_wp2
    go_ret2
    exact ⟨rfl, rfl⟩
  · have h1 : ((N : Int) == 0) = false := by simpa using h0
    have h3 : ((N : Int) % 8 != 0) = true := by
      have : N % 8 ≠ 0 := by omega
      simp; omega
    clear h h0
    go_enter Tryd.func10, Tryd.ntmps10
    go_wp2
    go_ret2
    exact ⟨rfl, rfl⟩
set_option maxHeartbeats 1000000 in
theorem rdec_long (q : Option Addr) (qc : Nat) (N : Nat) (w : World) (hN : N ≤ 140737488351232) (h : N % 8 = 0) (hl : 32768 < N) :
    Calls Tryd.prog 10 #[.slice q N qc] w fun e w' => e = .returned (.tuple #[.slice none 0 0, .int .i64 31]) ∧ w = w' := by
  have h1 : ((N : Int) == 0) = false := by simp; omega
  have h3 : ((N : Int) % 8 != 0) = false := by simp; omega
  have h4 : 4096 < (N : Int) / 8 := by omega
  clear h
  go_enter Tryd.func10, Tryd.ntmps10
  go_wp2
  go_ret2
  exact ⟨rfl, rfl⟩
/-- a slot of the bytes, read -/
theorem rslot_at (b off qc : Nat) (xs : List Int) (k L : Nat) (w : World) (h : RowAt w (some ⟨b, off, none⟩) xs) (hk : k * 8 + 8 ≤ xs.length) (hL : L = 8) (hc : 8 ≤ qc) :
    Calls Tryd.prog 22 #[.slice (some ⟨b, off + k * 8, none⟩) L qc] w fun e w' => e = .returned (iV (slotOf xs k)) ∧ Below w.heap.size w w' := by
  subst hL
  exact rslot_any b (off + k * 8) qc (cut xs (k * 8) 8) w (cut_length hk) hc (h.cut hk)
theorem own_below {w w' : World} {B : Nat} {e : TypeId} {size n : Nat} {v : Value} {xs : List Value} (h : w.ownsRow B e size v n xs) (hb : Below w.heap.size w w') : w'.ownsRow B e size v n xs := by
  obtain ⟨hl, h | ⟨g, cap, cur, hv, hg, hh, h1, h2, h3, h4⟩⟩ := h
  · exact ⟨hl, .inl h⟩
  · exact ⟨hl, .inr ⟨g, cap, cur, hv, hg, (hb.block g (Array.getElem?_eq_some_iff.1 hh).1).trans hh, h1, h2, h3, h4⟩⟩
theorem new_cells (w : World) (o : Obj) (cs : List Value) (t : TypeId) : ∀ j u, cs[j]? = some u → ((w.alloc o).alloc (.cells cs.toArray t)).cell? ((⟨w.heap.size + 1, 0, none⟩ : Addr).add j) = some u := by
  intro j u hu
  have h := cell_new2 w o (cs := cs.toArray) (t := t) (fr := (0, 0)) (i := j) (v := u) trivial (by simpa using hu)
  by_cases h0 : j = 0
  · subst h0; simpa [Addr.add] using h
  · simpa [Addr.add, h0] using h
theorem new_cells0 (w : World) (cs : List Value) (t : TypeId) : ∀ j u, cs[j]? = some u → (w.alloc (.cells cs.toArray t)).cell? ((⟨w.heap.size, 0, none⟩ : Addr).add j) = some u := by
  intro j u hu
  have h := cell_new w (cs := cs.toArray) (t := t) (fr := (0, 0)) (i := j) (v := u) (by simpa using hu)
  by_cases h0 : j = 0
  · subst h0; simpa [Addr.add] using h
  · simpa [Addr.add, h0] using h
/-- a row of its own, behind a store into a cell of another block -/
theorem own_set {w : World} {B : Nat} {e : TypeId} {size n : Nat} {v : Value} {xs : List Value} (h : w.ownsRow B e size v n xs) {b i : Nat} (hne : v.ownBlock ≠ some b) (u : Value) : (w.setCell ⟨b, i, none⟩ u).ownsRow B e size v n xs := by
  obtain ⟨hl, h | ⟨g, cap, cur, hv, hg, hh, h1, h2, h3, h4⟩⟩ := h
  · exact ⟨hl, .inl h⟩
  · refine ⟨hl, .inr ⟨g, cap, cur, hv, hg, ?_, h1, h2, h3, h4⟩⟩
    rw [Below.heap_setCell w ⟨b, i, none⟩ u g (fun e => hne (by rw [hv]; simp [Value.ownBlock]; exact e))]
    exact hh
theorem own_ne {w : World} {B : Nat} {e : TypeId} {size n : Nat} {v : Value} {xs : List Value} (h : w.ownsRow B e size v n xs) : v.ownBlock ≠ some w.heap.size := by
  obtain ⟨hl, ⟨rfl, _⟩ | ⟨g, cap, cur, rfl, hg, hh, _⟩⟩ := h
  · simp [Value.ownBlock]
  · have := (Array.getElem?_eq_some_iff.1 hh).1
    simp [Value.ownBlock]
    omega
theorem keepA {w : World} {o : Obj} {b i : Nat} {v u : Value} (h : b < w.heap.size) (hi : i ≠ 5) (hu : w.cell? ⟨b, i, none⟩ = some u) : ((w.setCell ⟨b, 5, none⟩ v).alloc o).drew.cell? ⟨b, i, none⟩ = some u := by
  rw [World.cell?_drew, World.cell?_alloc_lt _ _ ⟨b, i, none⟩ (by simpa using h), World.cell?_setCell_other _ _ _ _ (by intro e; injection e; omega)]
  exact hu
theorem keepB {w : World} {cs : Array Value} {t : TypeId} {b i : Nat} {v u : Value} (hu : cs[i]? = some u) : ((w.setCell ⟨b, 5, none⟩ v).alloc (.cells cs t)).drew.cell? ⟨w.heap.size, i, none⟩ = some u := by
  have := cell_new (w.setCell ⟨b, 5, none⟩ v) (t := t) (fr := (0, 0)) hu
  rw [World.cell?_drew]
  rwa [World.size_setCell] at this
theorem not_hole {y : In} (h : okHole y = false) : (y.op != 0) = true ∨ ((y.op != 0) = false ∧ (y.dst != 0) = true) ∨ ((y.op != 0) = false ∧ (y.dst != 0) = false ∧ (y.src != 0) = true) ∨ ((y.op != 0) = false ∧ (y.dst != 0) = false ∧ (y.src != 0) = false ∧ (y.off != 0) = true) := by
  have h' := of_decide_eq_false h
  simp only [bne_iff_ne, ne_eq, bne_eq_false_iff_eq]
  omega
set_option maxRecDepth 100000 in
set_option maxHeartbeats 40000000 in
theorem rdec_any (b off qc n : Nat) (xs : List Int) (w : World) (hl : xs.length = n * 8) (h1 : 1 ≤ n) (h2 : n ≤ 4096) (hc : n * 8 ≤ qc) (h : RowAt w (some ⟨b, off, none⟩) xs) :
    Calls Tryd.prog 10 #[.slice (some ⟨b, off, none⟩) xs.length qc] w (DecPost (slotOf xs) n w) := by
  have HS := Lib.hid (fun k L c W hW hk hL hcc => rslot_at b off c xs k L W hW hk hL hcc)
  have HBD := Lib.hid (slotOf_bd xs)
  have H := Lib.hid h
  obtain ⟨N, hN⟩ : ∃ N, xs.length = N := ⟨_, rfl⟩
  rw [hN] at HS hl ⊢
  have HW0 := Lib.hid (show ∀ i, (slotOf xs i).wide = 0 from fun _ => rfl)
  unfold iV at HS
  generalize slotOf xs = S at *
  obtain ⟨i38, h38, g38, s38, b38⟩ := info_parts info38
  have H38 := Lib.hid h38
  have G38 := Lib.hid g38
  have S38 := Lib.hid s38
  have B38 := Lib.hid b38
  have e1 : ((N : Int) == 0) = false := by simp; omega
  have e2 : ((N : Int) % 8 != 0) = false := by simp; omega
  have e3 : (N : Int) / 8 = n := by omega
  have e4 : ¬ 4096 < (n : Int) := by omega
  have hNl : N ≤ 32768 := by omega
  have HN := Lib.hid hl
  clear hN hl h h38 g38 s38 b38
  go_enter Tryd.func10, Tryd.ntmps10
  go_wp2
  go_loopw [4, 5] (fun v i wr => ∃ k : Nat, k ≤ n ∧ i = .int .i64 ((k * 8 : Nat) : Int) ∧ Below w.heap.size w wr ∧ wr.ownsRow w.heap.size 38 6 v k (flatV (decL S k)) ∧ Hid (hR (opsOf S) k = false) ∧ Hid (∀ j, j < k → badB S n j = false)) (fun _ i _ => N - (intOf i).toNat)
  case atStart => exact ⟨0, Nat.zero_le _, rfl, Below.refl _ _, ⟨rfl, .inl ⟨rfl, rfl⟩⟩, Lib.hid rfl, Lib.hid (fun j hj => absurd hj (Nat.not_lt_zero _))⟩
  case round =>
    obtain ⟨k, hk, rfl, hb, hown, hnh, hnb⟩ := hrel
    have HOWN := Lib.hid hown
    have HB := Lib.hid hb
    clear hown hb
    by_cases hlt : k < n
    · have hk8 : k * 8 + 8 ≤ N := by have := HN.out; omega
      have hkN : k * 8 < N := by omega
      have hkq : k * 8 + 8 ≤ qc := by omega
      have HX := Lib.hid (show dec S k = if (S k).op = 24 then { S k with wide := wideOf (S k) (S (k + 1)) } else S k by unfold dec; rw [hnh.out]; simp)
      have hw0 := HW0.out k
      have HSK := HS.out k
      obtain ⟨X, hX⟩ : ∃ X, S k = X := ⟨_, rfl⟩
      rw [hX] at HSK hw0
      have HXX := Lib.hid hX
      clear hX
      obtain ⟨a0, a1, a2, a3, a4, a5⟩ := X
      obtain rfl : a5 = 0 := hw0
      by_cases hop : a0 = 24
      · subst hop
        by_cases hk1 : k + 1 < n
        · have hk16 : (k + 1) * 8 + 8 ≤ N := by have := HN.out; omega
          have hkq2 : (k + 1) * 8 + 8 ≤ qc := by omega
          have hw1 := HW0.out (k + 1)
          have HSK1 := HS.out (k + 1)
          have hbx := HBD.out k
          have hby := HBD.out (k + 1)
          obtain ⟨Y, hY⟩ : ∃ Y, S (k + 1) = Y := ⟨_, rfl⟩
          rw [HXX.out] at hbx
          rw [hY] at HSK1 hw1 hby
          have HYY := Lib.hid hY
          clear hY
          have HNH := Lib.hid (show hR (opsOf S) (k + 1) = true by rw [hR_succ, hnh.out]; unfold opsOf; rw [HXX.out]; rfl)
          have HK8 := Lib.hid (show ((k + 1 : Nat) : Int) * 8 = (k : Int) * 8 + 8 by omega)
          have e8 : (k + 1) * 8 = k * 8 + 8 := by omega
          rw [e8] at HSK1 hk16 hkq2
          clear e8
          cases hoh : okHole Y
          · have HBAD := Lib.hid (show badB S n k = true by unfold badB; rw [hnh.out, HXX.out, HYY.out, hoh]; simp)
            have hnot := not_hole hoh
            obtain ⟨y0, y1, y2, y3, y4, y5⟩ := Y
            dsimp only at hnot hw1
            subst hw1
            clear hoh hbx hby
            have HNOT := Lib.hid hnot
            clear hnot
            have tok1 : True := trivial
            go_wp2_with (first
                | (go_at_call 22; have _t := tok1; refine (HSK _ _ _ (H.out.below (HB.out.trans (Below.refl _ _))) hk8 (by omega) (by omega)).mono ?_; rintro e w1 ⟨rfl, hb1⟩
                   have HB1 := Lib.hid (HB.out.trans (hb1.mono HB.out.size)); have hz1 : w.heap.size ≤ w1.heap.size := Nat.le_trans HB.out.size hb1.size; clear hb1 tok1)
                | (go_at_call 22; refine (HSK1 _ _ _ (H.out.below (HB1.out.alloc hz1 _)) hk16 (by omega) (by omega)).mono ?_; rintro e w2 ⟨rfl, hb2⟩
                   have HB2 := Lib.hid ((HB1.out.alloc hz1 _).trans (hb2.mono (by simp; omega))); have hz2 : w.heap.size ≤ w2.heap.size := HB2.out.size; clear hb2))
            all_goals first
              | (go_ret2
                 exact .inr ⟨okS_false hlt HBAD.out, rfl, HB2.out.alloc hz2 _⟩)
              | (exfalso
                 have hnot := HNOT.out
                 simp_all
                 done)
          · have hoy := of_decide_eq_true hoh
            obtain ⟨y0, y1, y2, y3, y4, y5⟩ := Y
            dsimp only at hoy hw1
            obtain ⟨rfl, rfl, rfl, rfl⟩ := hoy
            subst hw1
            have hx4 := hbx.imm
            have hy4 := hby.imm
            dsimp only at hx4 hy4
            have HOK := Lib.hid hoh
            have hbits : IntKind.u64.wrap (a4 % 4294967296 + IntKind.u64.wrap (y4 % 4294967296 * 4294967296)) = wideOf ⟨24, a1, a2, a3, a4, 0⟩ ⟨0, 0, 0, 0, y4, 0⟩ := by
              rw [IntKind.wrap_u64, IntKind.wrap_u64]; unfold wideOf; dsimp only; omega
            have HD1 := Lib.hid (show dec S k = ⟨24, a1, a2, a3, a4, wideOf ⟨24, a1, a2, a3, a4, 0⟩ ⟨0, 0, 0, 0, y4, 0⟩⟩ by rw [HX.out, HXX.out, HYY.out]; rfl)
            have HD2 := Lib.hid (show dec S (k + 1) = z by unfold dec; rw [HNH.out]; rfl)
            have HN2 := Lib.hid (show hR (opsOf S) (k + 2) = false by rw [hR_succ, HNH.out]; simp)
            have HNB := Lib.hid (show badB S n k = false by unfold badB; rw [HYY.out, hoh, decide_eq_true hk1]; simp)
            have HNB1 := Lib.hid (show badB S n (k + 1) = false by unfold badB; rw [HNH.out]; simp)
            obtain ⟨WD, hWD⟩ : ∃ W, wideOf ⟨24, a1, a2, a3, a4, 0⟩ ⟨0, 0, 0, 0, y4, 0⟩ = W := ⟨_, rfl⟩
            rw [hWD] at hbits HD1
            have HBITS := Lib.hid hbits
            clear hbits hWD hoh hbx hby
            have tok1 : True := trivial
            go_wp2_with (first
                | (go_at_call 22; have _t := tok1; refine (HSK _ _ _ (H.out.below (HB.out.trans (Below.refl _ _))) hk8 (by omega) (by omega)).mono ?_; rintro e w1 ⟨rfl, hb1⟩
                   have HB1 := Lib.hid (HB.out.trans (hb1.mono HB.out.size)); have HO1 := Lib.hid (own_below HOWN.out hb1); have hz1 : w.heap.size ≤ w1.heap.size := Nat.le_trans HB.out.size hb1.size; clear hb1 tok1)
                | (go_at_call 22; refine (HSK1 _ _ _ (H.out.below (HB1.out.alloc hz1 _)) hk16 (by omega) (by omega)).mono ?_; rintro e w2 ⟨rfl, hb2⟩
                   have HB2 := Lib.hid ((HB1.out.alloc hz1 _).trans (hb2.mono (by simp; omega))); have hz2 : w.heap.size ≤ w2.heap.size := HB2.out.size; have hz3 : w1.heap.size < w2.heap.size := one_in hb2
                   have HO2 := Lib.hid (own_below (HO1.out.alloc _) hb2)
                   have f5 : w2.frozen? ⟨w1.heap.size, 5, none⟩ = false := (hb2.frozen (p := ⟨w1.heap.size, 5, none⟩) (by simp)).trans (by simp)
                   have e0' : w2.cell? ⟨w1.heap.size, 0, none⟩ = some (.int .i64 24) := (hb2.cell (p := ⟨w1.heap.size, 0, none⟩) (by simp)).trans (cell_new _ rfl)
                   have e1' : w2.cell? ⟨w1.heap.size, 1, none⟩ = some (.int .i64 a1) := (hb2.cell (p := ⟨w1.heap.size, 1, none⟩) (by simp)).trans (cell_new _ rfl)
                   have e2' : w2.cell? ⟨w1.heap.size, 2, none⟩ = some (.int .i64 a2) := (hb2.cell (p := ⟨w1.heap.size, 2, none⟩) (by simp)).trans (cell_new _ rfl)
                   have e3' : w2.cell? ⟨w1.heap.size, 3, none⟩ = some (.int .i64 a3) := (hb2.cell (p := ⟨w1.heap.size, 3, none⟩) (by simp)).trans (cell_new _ rfl)
                   have e4' : w2.cell? ⟨w1.heap.size, 4, none⟩ = some (.int .i64 a4) := (hb2.cell (p := ⟨w1.heap.size, 4, none⟩) (by simp)).trans (cell_new _ rfl)
                   have e5' : w2.cell? ⟨w1.heap.size, 5, none⟩ = some (.int .u64 0) := (hb2.cell (p := ⟨w1.heap.size, 5, none⟩) (by simp)).trans (cell_new _ rfl)
                   clear hb2))
            go_region_held3 (fun W => W.cell? ⟨w1.heap.size, 4, none⟩ = some (.int .i64 a4) ∧ W.cell? ⟨w2.heap.size, 4, none⟩ = some (.int .i64 y4)) (first | exact ⟨keepA hz3 (by omega) e4', keepB rfl⟩ | go_keep)
              (first
              | (go_at_call 23; refine (rimm_no _ _ (by omega) (by omega)).mono ?_; rintro e w3 ⟨rfl, rfl⟩))
            rw [HBITS.out]
            have j0 : (((w2.setCell ⟨w1.heap.size, 5, none⟩ (.int .u64 WD)).alloc (.cells #[.int .i64 0, .int .i64 0, .int .i64 0, .int .i64 0, .int .i64 y4, .int .u64 0] 38)).drew).cell? ⟨w1.heap.size, 0, none⟩ = some (.int .i64 24) := keepA hz3 (by omega) e0'
            have j1 : (((w2.setCell ⟨w1.heap.size, 5, none⟩ (.int .u64 WD)).alloc (.cells #[.int .i64 0, .int .i64 0, .int .i64 0, .int .i64 0, .int .i64 y4, .int .u64 0] 38)).drew).cell? ⟨w1.heap.size, 1, none⟩ = some (.int .i64 a1) := keepA hz3 (by omega) e1'
            have j2 : (((w2.setCell ⟨w1.heap.size, 5, none⟩ (.int .u64 WD)).alloc (.cells #[.int .i64 0, .int .i64 0, .int .i64 0, .int .i64 0, .int .i64 y4, .int .u64 0] 38)).drew).cell? ⟨w1.heap.size, 2, none⟩ = some (.int .i64 a2) := keepA hz3 (by omega) e2'
            have j3 : (((w2.setCell ⟨w1.heap.size, 5, none⟩ (.int .u64 WD)).alloc (.cells #[.int .i64 0, .int .i64 0, .int .i64 0, .int .i64 0, .int .i64 y4, .int .u64 0] 38)).drew).cell? ⟨w1.heap.size, 3, none⟩ = some (.int .i64 a3) := keepA hz3 (by omega) e3'
            have j4 : (((w2.setCell ⟨w1.heap.size, 5, none⟩ (.int .u64 WD)).alloc (.cells #[.int .i64 0, .int .i64 0, .int .i64 0, .int .i64 0, .int .i64 y4, .int .u64 0] 38)).drew).cell? ⟨w1.heap.size, 4, none⟩ = some (.int .i64 a4) := keepA hz3 (by omega) e4'
            have j5 : (((w2.setCell ⟨w1.heap.size, 5, none⟩ (.int .u64 WD)).alloc (.cells #[.int .i64 0, .int .i64 0, .int .i64 0, .int .i64 0, .int .i64 y4, .int .u64 0] 38)).drew).cell? ⟨w1.heap.size, 5, none⟩ = some (.int .u64 WD) := by
              rw [World.cell?_drew, World.cell?_alloc_lt _ _ ⟨w1.heap.size, 5, none⟩ (by simpa using hz3)]
              exact World.cell?_setCell_same _ _ _ e5'
            have hb8 : Below w.heap.size w (((w2.setCell ⟨w1.heap.size, 5, none⟩ (.int .u64 WD)).alloc (.cells #[.int .i64 0, .int .i64 0, .int .i64 0, .int .i64 0, .int .i64 y4, .int .u64 0] 38)).drew) := ((HB2.out.setCell (p := ⟨w1.heap.size, 5, none⟩) hz1 _).alloc (by simp; omega) _).drew
            have hne := own_ne HO1.out
            have ho8 : World.ownsRow (((w2.setCell ⟨w1.heap.size, 5, none⟩ (.int .u64 WD)).alloc (.cells #[.int .i64 0, .int .i64 0, .int .i64 0, .int .i64 0, .int .i64 y4, .int .u64 0] 38)).drew) w.heap.size 38 6 u4 k (flatV (decL S k)) := ((own_set HO2.out hne _).alloc _).drew
            obtain ⟨W8, hW8⟩ : ∃ W, ((w2.setCell ⟨w1.heap.size, 5, none⟩ (.int .u64 WD)).alloc (.cells #[.int .i64 0, .int .i64 0, .int .i64 0, .int .i64 0, .int .i64 y4, .int .u64 0] 38)).drew = W := ⟨_, rfl⟩
            rw [hW8] at j0 j1 j2 j3 j4 j5 hb8 ho8 ⊢
            have HB8 := Lib.hid hb8
            have HO8 := Lib.hid ho8
            clear hW8 hb8 ho8 e0' e1' e2' e3' e4' e5' f5
            go_wp2_with (at_builtin; refine wpList_append_own _ rfl (.tmp 79) (.tmp 82) 23 rfl w.heap.size 38 i38 _ 6 48 Tryd.underlying23 H38.out G38.out S38.out B38.out rfl (by decide) _ _ _ rfl (HO8.out.alloc _) ⟨W8.heap.size, 0, none⟩ 2 2 (flatV [⟨24, a1, a2, a3, a4, WD⟩, z]) rfl rfl ?d1 ?d2 ?d3 ?d4 ?d5 ?_)
            case d1 => exact new_cells0 W8 (flatV [⟨24, a1, a2, a3, a4, WD⟩, z]) 38
            case d2 => exact flatV_one [⟨24, a1, a2, a3, a4, WD⟩, z]
            case d3 => simp only [maxLen]; omega
            case d4 => omega
            case d5 => have := HB8.out.size; simp; omega
            intro v' w3 hown' hg _
            have hb3 := (HB8.out.alloc HB8.out.size (.cells (flatV [⟨24, a1, a2, a3, a4, WD⟩, z]).toArray 38)).grown hg (by have := HB8.out.size; simp; omega) (own_ge HO8.out)
            have HB3 := Lib.hid hb3
            have HO3 := Lib.hid hown'
            clear hown' hg hb3
            go_wp2
            go_roundw
            case rel =>
              refine ⟨k + 2, by omega, by go_num, HB3.out, ?_, HN2, Lib.hid (fun j hj => ?_)⟩
              · rw [decL_snoc, decL_snoc, flatV_append, flatV_append, HD1.out, HD2.out, List.append_assoc]
                exact HO3.out
              · by_cases e : j = k
                · subst e; exact HNB.out
                · by_cases e2 : j = k + 1
                  · subst e2; exact HNB1.out
                  · exact hnb.out j (by omega)
            case measure => simp [intOf]; omega
        · have HBAD := Lib.hid (show badB S n k = true by unfold badB; rw [hnh.out, HXX.out]; simp [hk1])
          have hge : N ≤ k * 8 + 8 := by have := HN.out; omega
          have hge2 : (N : Int) ≤ (k : Int) * 8 + 8 := by omega
          go_wp2_with (first
            | (go_at_call 22; refine (HSK _ _ _ (H.out.below (HB.out.trans (Below.refl _ _))) hk8 (by omega) (by omega)).mono ?_; rintro e w1 ⟨rfl, hb1⟩
               have HB1 := Lib.hid (HB.out.trans (hb1.mono HB.out.size)); have hz1 : w.heap.size ≤ w1.heap.size := Nat.le_trans HB.out.size hb1.size; clear hb1))
          go_ret2
          exact .inr ⟨okS_false hlt HBAD.out, rfl, HB1.out.alloc hz1 _⟩
      · have hne : (a0 != 24) = true := by simpa using hop
        have HD := Lib.hid (show dec S k = ⟨a0, a1, a2, a3, a4, 0⟩ by rw [HX.out, HXX.out]; exact if_neg hop)
        have HN1 := Lib.hid (show hR (opsOf S) (k + 1) = false by rw [hR_succ]; unfold opsOf; rw [HXX.out]; simp [hop])
        have HNB := Lib.hid (show badB S n k = false by unfold badB; rw [HXX.out]; simp [hop])
        clear hop
        go_wp2_with (first
          | (go_at_call 22; refine (HSK _ _ _ (H.out.below (HB.out.trans (Below.refl _ _))) hk8 (by omega) (by omega)).mono ?_; rintro e w1 ⟨rfl, hb1⟩
             have HB1 := Lib.hid (HB.out.trans (hb1.mono HB.out.size)); have HO1 := Lib.hid (own_below HOWN.out hb1); have hz1 : w.heap.size ≤ w1.heap.size := Nat.le_trans HB.out.size hb1.size; clear hb1)
          | (at_builtin; refine wpList_append_own _ rfl (.tmp 36) (.tmp 38) 23 rfl w.heap.size 38 i38 _ 6 48 Tryd.underlying23 H38.out G38.out S38.out B38.out rfl (by decide) _ _ _ rfl ((HO1.out.alloc _).alloc _) ⟨w1.heap.size + 1, 0, none⟩ 1 1 (cellsI ⟨a0, a1, a2, a3, a4, 0⟩) rfl rfl ?c1 ?c2 ?c3 ?c4 ?c5 ?_))
        case c1 => exact new_cells w1 _ (cellsI ⟨a0, a1, a2, a3, a4, 0⟩) 38
        case c2 => exact flatV_one [⟨a0, a1, a2, a3, a4, 0⟩]
        case c3 => simp only [maxLen]; omega
        case c4 => omega
        case c5 => simp; omega
        intro v' w3 hown' hg _
        have hb3 := ((HB1.out.alloc hz1 (.cells #[.int .i64 a0, .int .i64 a1, .int .i64 a2, .int .i64 a3, .int .i64 a4, .int .u64 0] 38)).alloc (by simp; omega) (.cells #[.int .i64 a0, .int .i64 a1, .int .i64 a2, .int .i64 a3, .int .i64 a4, .int .u64 0] 38)).grown hg (by simp; omega) (own_ge HO1.out)
        have HB3 := Lib.hid hb3
        have HO3 := Lib.hid hown'
        clear hown' hg hb3
        go_wp2
        go_roundw
        case rel =>
          refine ⟨k + 1, by omega, by go_num, HB3.out, ?_, HN1, Lib.hid (fun j hj => ?_)⟩
          · rw [decL_snoc, flatV_append, HD.out]
            exact HO3.out
          · by_cases e : j = k
            · subst e; exact HNB.out
            · exact hnb.out j (by omega)
        case measure => simp [intOf]; omega
    · have hkn : k = n := by omega
      subst hkn
      have hge : N ≤ k * 8 := by have := HN.out; omega
      have hge2 : (N : Int) ≤ (k : Int) * 8 := by omega
      go_wp2
      go_ret2
      obtain ⟨g, cap, hv, hI⟩ := owns6 HOWN.out (by omega) (decL_length S k) (by omega) (fun i hi => by rw [decL_length] at hi; rw [decL_getD S hi]; exact dec_bd HBD.out i)
      exact .inl ⟨okS_true.2 hnb.out, g, cap, by rw [hv]; rfl, HB.out, hI⟩
end Go.Proofs.YtlcmaokafklheaaDoor
