/- Contract of told, of a helper that reads bytes. -/
import Derived.Test.YthckkdkijajadaaDoorYI
namespace Go.Proofs.YthckkdkijajadaaDoor
open Go.RowKit M

theorem RowAt.ne {w : World} {g b : Nat} {xs : List Int} {x : Int} (h : RowAt w (some ⟨g, 0, none⟩) xs) (hn : 0 < xs.length) (hc : w.cell? ⟨b, 0, none⟩ = some (.int .i64 x)) : b ≠ g := by
  obtain ⟨b', off, e, _, hc'⟩ := h.cells 0 hn
  injection e with e
  injection e with e1 e2
  subst e1 e2
  rintro rfl
  rw [Nat.zero_add, hc] at hc'
  simp at hc'
theorem RowAt.setOther {w : World} {g : Nat} {xs : List Int} (h : RowAt w (some ⟨g, 0, none⟩) xs) {a : Addr} (ha : 0 < xs.length → a.block ≠ g) (v : Value) : RowAt (w.setCell a v) (some ⟨g, 0, none⟩) xs :=
  ⟨h.small, fun j hj => by
    obtain ⟨b', off, e, hl, hc'⟩ := h.cells j hj
    injection e with e
    injection e with e1 e2
    subst e1 e2
    exact ⟨_, _, rfl, by simpa [World.setCell] using hl, (World.cell?_setCell_other _ _ _ _ (fun e => ha (by omega) (congrArg Addr.block e))).trans hc'⟩, h.byte⟩
/-- what told's boxes hold behind calls -/
theorem TdSt.told0 {w wr W : World} {cs ls : List Value} {n : Int} {v : Value} {k : Nat} {T : List Int} (h : TdSt w wr cs ls n v k T) (hb : Below wr.heap.size wr W) (i : Nat) {u : Value} (hi : [Value.int .i64 n, v, .slice none 0 0][i]? = some u) : W.cell? ⟨w.heap.size + 1 + 1 + 1, i, none⟩ = some u :=
  (hb.cell (p := ⟨w.heap.size + 1 + 1 + 1, i, none⟩) (by have := h.size; show w.heap.size + 1 + 1 + 1 < _; omega)).trans (h.told i u hi)
theorem TdSt.res0 {w wr W : World} {cs ls : List Value} {n : Int} {v : Value} {k : Nat} {T : List Int} (h : TdSt w wr cs ls n v k T) (hb : Below wr.heap.size wr W) (i : Nat) {u : Value} (hi : [Value.int .i64 0, .slice none 0 0, .slice none 0 0][i]? = some u) : W.cell? ⟨w.heap.size + 1 + 1, i, none⟩ = some u :=
  (hb.cell (p := ⟨w.heap.size + 1 + 1, i, none⟩) (by have := h.size; show w.heap.size + 1 + 1 < _; omega)).trans (h.res i u hi)
theorem TdSt.lay0 {w wr W : World} {cs ls : List Value} {n : Int} {v : Value} {k : Nat} {T : List Int} (h : TdSt w wr cs ls n v k T) (hb : Below wr.heap.size wr W) (i : Nat) {u : Value} (hi : ls[i]? = some u) : W.cell? ⟨w.heap.size + 1, i, none⟩ = some u :=
  (hb.cell (p := ⟨w.heap.size + 1, i, none⟩) (by have := h.size; show w.heap.size + 1 < _; omega)).trans (h.lay i u hi)
theorem TdSt.fz0 {w wr W : World} {cs ls : List Value} {n : Int} {v : Value} {k : Nat} {T : List Int} (h : TdSt w wr cs ls n v k T) (hb : Below wr.heap.size wr W) (i : Nat) : W.frozen? ⟨w.heap.size + 1 + 1, i, none⟩ = false ∧ W.frozen? ⟨w.heap.size + 1 + 1 + 1, i, none⟩ = false :=
  ⟨(hb.frozen (p := ⟨w.heap.size + 1 + 1, i, none⟩) (by have := h.size; show w.heap.size + 1 + 1 < _; omega)).trans (h.fres i), (hb.frozen (p := ⟨w.heap.size + 1 + 1 + 1, i, none⟩) (by have := h.size; show w.heap.size + 1 + 1 + 1 < _; omega)).trans (h.ftold i)⟩
/-- the end: the bytes are laid into the told one, all of it into the result -/
theorem TdSt.lastR {w wr W : World} {cs ls : List Value} {n : Int} {k : Nat} {tq : Option Addr} {tc : Nat} {A : List Int} {k0 k1 k2 : Int} {W0 : World} {q : Option Addr} {g : Nat} {D : List Int} (h : TdSt w wr cs ls n (.slice tq k tc) k (tdL k0 k1 k2 A k)) (hA : WordsAt W0 q A) (hk : k ≤ A.length) (y x0 x1 x2 : Value) (hb : Below wr.heap.size wr W) (hD : RowAt W (some ⟨g, 0, none⟩) D) :
    Below w.heap.size w ((((W.setCell ⟨w.heap.size + 1 + 1 + 1, 2, none⟩ y).setCell ⟨w.heap.size + 1 + 1, 0, none⟩ x0).setCell ⟨w.heap.size + 1 + 1, 1, none⟩ x1).setCell ⟨w.heap.size + 1 + 1, 2, none⟩ x2) ∧ k ≤ tc ∧ WordsAt ((((W.setCell ⟨w.heap.size + 1 + 1 + 1, 2, none⟩ y).setCell ⟨w.heap.size + 1 + 1, 0, none⟩ x0).setCell ⟨w.heap.size + 1 + 1, 1, none⟩ x1).setCell ⟨w.heap.size + 1 + 1, 2, none⟩ x2) tq (tdL k0 k1 k2 A k) ∧ RowAt ((((W.setCell ⟨w.heap.size + 1 + 1 + 1, 2, none⟩ y).setCell ⟨w.heap.size + 1 + 1, 0, none⟩ x0).setCell ⟨w.heap.size + 1 + 1, 1, none⟩ x1).setCell ⟨w.heap.size + 1 + 1, 2, none⟩ x2) (some ⟨g, 0, none⟩) D := by
  have hs := h.size
  have n2 : 0 < D.length → w.heap.size + 1 + 1 ≠ g := fun hn => hD.ne hn (h.res0 hb 0 rfl)
  have n3 : 0 < D.length → w.heap.size + 1 + 1 + 1 ≠ g := fun hn => hD.ne hn (h.told0 hb 0 rfl)
  have ho : W.ownsRow (w.heap.size + 4) 22 1 (.slice tq k tc) k (wordsV (tdL k0 k1 k2 A k)) := ownsRow_go h.own hb
  have ho3 := own_setCell (own_setCell (own_setCell (own_setCell ho (a := ⟨w.heap.size + 1 + 1 + 1, 2, none⟩) (by show w.heap.size + 1 + 1 + 1 < _; omega) y) (a := ⟨w.heap.size + 1 + 1, 0, none⟩) (by show w.heap.size + 1 + 1 < _; omega) x0) (a := ⟨w.heap.size + 1 + 1, 1, none⟩) (by show w.heap.size + 1 + 1 < _; omega) x1) (a := ⟨w.heap.size + 1 + 1, 2, none⟩) (by show w.heap.size + 1 + 1 < _; omega) x2
  have hl : (tdL k0 k1 k2 A k).length = k := tdL_length ..
  have hw := own_words (xs := tdL k0 k1 k2 A k) (c := tc) (q := tq) (by rw [hl]; have := hA.small; omega) (fun j hj => by rw [hl] at hj; rw [show (tdL k0 k1 k2 A k).getD j 0 = tdF k0 k1 k2 A j by simp [tdL, hj]]; exact tdF_bd hA (by omega)) (by rw [hl]; exact ho3)
  rw [hl] at hw
  exact ⟨((((h.below.trans (hb.mono (by omega))).setCell (p := ⟨w.heap.size + 1 + 1 + 1, 2, none⟩) (by show w.heap.size ≤ w.heap.size + 1 + 1 + 1; omega) y).setCell (p := ⟨w.heap.size + 1 + 1, 0, none⟩) (by show w.heap.size ≤ w.heap.size + 1 + 1; omega) x0).setCell (p := ⟨w.heap.size + 1 + 1, 1, none⟩) (by show w.heap.size ≤ w.heap.size + 1 + 1; omega) x1).setCell (p := ⟨w.heap.size + 1 + 1, 2, none⟩) (by show w.heap.size ≤ w.heap.size + 1 + 1; omega) x2, hw.1, hw.2,
    (((hD.setOther n3 y).setOther n2 x0).setOther n2 x1).setOther n2 x2⟩
set_option maxRecDepth 100000 in
set_option maxHeartbeats 1000000 in
theorem told_read (s : Nat → Addr) (nm : ByteArray) (k1 k2 m n : Int) (b0 o0 : Nat) (A : List Int) (cc : Nat) (c : Int) (cw : Bool) (p : Option Addr) (len cap : Nat) (ms : List Ar) (mp : Option Addr) (mc : Nat) (Q : Nat → Option Addr) (C0 : Nat → Nat) (M : List (List Int)) (a0 a1 : Int) (w : World) (hs : Sent w s) (hm : MapsAt w p len ms) (hM : MemAt w mp Q C0 M) (hA : WordsAt w (some ⟨b0, o0, none⟩) A) (hA2 : A = [a0, a1]) (hz : 0 < szC a1) :
    Calls Tryd.prog 31 #[.agg #[.string nm, (.int .i64 2), .int .i64 k1, .int .i64 k2, .int .i64 m, .int .i64 n, .slice (some ⟨b0, o0, none⟩) A.length cc], .agg #[.int .i64 c, .bool cw, .slice p len cap], .slice mp M.length mc] w (ToldPost n (tdL 2 k1 k2 A A.length) (rdB c cw ms len M a0 (szC a1)) w) := by
  have HA := Lib.hid hA
  obtain ⟨i5, h5, g5, s5, b5⟩ := info_parts info22
  have H5 := Lib.hid h5
  have G5 := Lib.hid g5
  have S5 := Lib.hid s5
  have B5 := Lib.hid b5
  clear h5 g5 s5 b5
  have hC : A.length ≤ 3 := by rw [hA2]; simp
  have hd0 := hA.bd 0 (by rw [hA2]; simp)
  have hd1 := hA.bd 1 (by rw [hA2]; simp)
  rw [show A.getD 0 0 = a0 by rw [hA2]; rfl] at hd0
  rw [show A.getD 1 0 = a1 by rw [hA2]; rfl] at hd1
  have HSP : Hid (∀ W, Below w.heap.size w W → Calls Tryd.prog 35 #[.agg #[.string nm, .int .i64 2, .int .i64 k1, .int .i64 k2, .int .i64 m, .int .i64 n, .slice (some ⟨b0, o0, none⟩) A.length cc], .int .i64 2] W fun e w' => e = .returned (.agg #[.int .u64 a0, .int .i64 (szC a1)]) ∧ Below W.heap.size W w') := fun W hb => by
    have hAW := hA.below hb
    obtain ⟨b, off, e, hl, c0⟩ := hAW.cells 0 (by rw [hA2]; simp)
    injection e with e
    injection e with e1 e2
    subst e1 e2
    obtain ⟨b, off, e, _, c1⟩ := hAW.cells 1 (by rw [hA2]; simp)
    injection e with e
    injection e with e1 e2
    subst e1 e2
    rw [show A.getD 0 0 = a0 by rw [hA2]; rfl, Nat.add_zero] at c0
    rw [show A.getD 1 0 = a1 by rw [hA2]; rfl] at c1
    exact span_at nm 2 k1 k2 m n b0 o0 A.length cc a0 a1 W hl (by rw [hA2]; simp) (by omega) c0 c1 hd1.1
  have HBY : Hid (∀ W, Below w.heap.size w W → Calls Tryd.prog 51 #[.agg #[.int .i64 c, .bool cw, .slice p len cap], .slice mp M.length mc, .int .u64 a0, .int .i64 (szC a1)] W (BytesPost (rdB c cw ms len M a0 (szC a1)) (accN (rdK c cw ms len M a0 (szC a1) false)) W)) := fun W hb =>
    bytes_any s c cw p len cap ms mp mc Q C0 M a0 (szC a1) W (hs.below hb) (hm.below hb) (hM.below hb) hd0
  unfold BytesPost at HBY
  generalize rdB c cw ms len M a0 (szC a1) = D at HBY ⊢
  generalize accN (rdK c cw ms len M a0 (szC a1) false) = E at HBY
  generalize szC a1 = sz at HBY HSP hz
  generalize M.length = mn at HBY ⊢
  obtain ⟨C, hCC⟩ : ∃ C, A.length = C := ⟨_, rfl⟩
  have HC := Lib.hid hCC
  rw [hCC] at HSP hC ⊢
  have H0 := Lib.hid (TdSt.start w [.string nm, (.int .i64 2), .int .i64 k1, .int .i64 k2, .int .i64 m, .int .i64 n, .slice (some ⟨b0, o0, none⟩) C cc] [.int .i64 c, .bool cw, .slice p len cap] 74 27 35 n)
  clear hCC hs hm hM hA hA2 hd0 hd1
  go_enter Tryd.func31, Tryd.ntmps31
  go_wp2
  go_loopw [17] (fun i wx => ∃ (k : Nat) (v : Value), k ≤ C ∧ i = .int .i64 k ∧ Hid (TdSt w wx [.string nm, (.int .i64 2), .int .i64 k1, .int .i64 k2, .int .i64 m, .int .i64 n, .slice (some ⟨b0, o0, none⟩) C cc] [.int .i64 c, .bool cw, .slice p len cap] n v k (tdL 2 k1 k2 A k))) (fun i _ => C - (intOf i).toNat)
  case atStart => exact ⟨0, _, Nat.zero_le _, rfl, H0.out⟩
  case round =>
    obtain ⟨k, v, hk, rfl, HT⟩ := hrel
    have hsz := HT.out.size
    by_cases hlt : k < C
    · have d0 := HT.out.kind (i := k) (by omega)
      obtain ⟨b, off, e, hbl, d1⟩ := (HA.out.below HT.out.below).cells k (by rw [HC.out]; exact hlt)
      obtain rfl : b0 = b := by injection e with e; injection e
      obtain rfl : o0 = off := by injection e with e; injection e
      clear e
      have t1 := HT.out.told 1 _ rfl
      have ft1 := HT.out.ftold 1
      have hk3 : k < 3 := by omega
      have HF := Lib.hid (tdL_snoc 2 k1 k2 A k)
      have hF : tdF 2 k1 k2 A k = if isAddr (k3 2 k1 k2 k) = true then 0 else A.getD k 0 := rfl
      generalize k3 2 k1 k2 k = kk at d0 hF
      generalize A.getD k 0 = x at d1 hF
      generalize tdF 2 k1 k2 A k = y at hF HF
      have hend : ∀ w3 v', (wr.alloc (.cells #[.int .u64 y] 22)).grownBy w3 v.ownBlock → w3.ownsRow (w.heap.size + 4) 22 1 v' (k + 1) (wordsV (tdL 2 k1 k2 A k) ++ [.int .u64 y]) → Hid (TdSt w (w3.setCell ⟨w.heap.size + 1 + 1 + 1, 1, none⟩ v') [.string nm, (.int .i64 2), .int .i64 k1, .int .i64 k2, .int .i64 m, .int .i64 n, .slice (some ⟨b0, o0, none⟩) C cc] [.int .i64 c, .bool cw, .slice p len cap] n v' (k + 1) (tdL 2 k1 k2 A (k + 1))) :=
        fun w3 v' hg ho => HT.out.step hg (by rw [HF.out, wordsV_snoc]; exact ho)
      have HEND := Lib.hid hend
      clear hend
      cases ha : isAddr kk
      · have HIA := Lib.hid ha
        rw [ha, if_neg (by simp)] at hF
        subst hF
        clear ha
        go_wp2_with (first
          | (go_at_call 44; refine (isAddr_is _ _ HIA.out).mono ?_; rintro e w1 ⟨rfl, rfl⟩)
          | (at_builtin; refine wpList_append_own _ rfl (.tmp 29) (.tmp 31) 32 rfl (w.heap.size + 4) 22 i5 _ 1 8 Tryd.underlying32 H5.out G5.out S5.out B5.out rfl (by decide) _ _ _ rfl (HT.out.own.alloc _) ⟨wr.heap.size, 0, none⟩ 1 1 [.int .u64 y] rfl rfl ?c1 ?c2 ?c3 ?c4 ?c5 ?_))
        case c1 => exact cell_one_new _ _ _
        case c2 => simp [Value.oneCell']
        case c3 => simp only [maxLen]; omega
        case c4 => omega
        case c5 => simp; omega
        intro v' w3 hown' hg _
        obtain ⟨p', c', rfl⟩ := own_slice hown'
        have HE := HEND.out w3 _ hg hown'
        have B3 : Below (w.heap.size + 4) wr w3 := ((Below.refl _ wr).alloc hsz _).grown hg (by simp; omega) (own_ge HT.out.own)
        have u1 := (B3.cell (p := ⟨w.heap.size + 1 + 1 + 1, 1, none⟩) (by show w.heap.size + 1 + 1 + 1 < _; omega)).trans (HT.out.told 1 _ rfl)
        have u2 := (B3.frozen (p := ⟨w.heap.size + 1 + 1 + 1, 1, none⟩) (by show w.heap.size + 1 + 1 + 1 < _; omega)).trans (HT.out.ftold 1)
        clear hg hown' B3
        go_wp2
        go_roundw
        case rel => exact ⟨k + 1, _, by omega, by go_num, HE⟩
        case measure => simp [intOf]; omega
      · have HIA := Lib.hid ha
        rw [ha, if_pos rfl] at hF
        subst hF
        clear ha
        go_wp2_with (first
          | (go_at_call 44; refine (isAddr_is _ _ HIA.out).mono ?_; rintro e w1 ⟨rfl, rfl⟩)
          | (at_builtin; refine wpList_append_own _ rfl (.tmp 29) (.tmp 31) 32 rfl (w.heap.size + 4) 22 i5 _ 1 8 Tryd.underlying32 H5.out G5.out S5.out B5.out rfl (by decide) _ _ _ rfl (HT.out.own.alloc _) ⟨wr.heap.size, 0, none⟩ 1 1 [.int .u64 0] rfl rfl ?c1 ?c2 ?c3 ?c4 ?c5 ?_))
        case c1 => exact cell_one_new _ _ _
        case c2 => simp [Value.oneCell']
        case c3 => simp only [maxLen]; omega
        case c4 => omega
        case c5 => simp; omega
        intro v' w3 hown' hg _
        obtain ⟨p', c', rfl⟩ := own_slice hown'
        have HE := HEND.out w3 _ hg hown'
        have B3 : Below (w.heap.size + 4) wr w3 := ((Below.refl _ wr).alloc hsz _).grown hg (by simp; omega) (own_ge HT.out.own)
        have u1 := (B3.cell (p := ⟨w.heap.size + 1 + 1 + 1, 1, none⟩) (by show w.heap.size + 1 + 1 + 1 < _; omega)).trans (HT.out.told 1 _ rfl)
        have u2 := (B3.frozen (p := ⟨w.heap.size + 1 + 1 + 1, 1, none⟩) (by show w.heap.size + 1 + 1 + 1 < _; omega)).trans (HT.out.ftold 1)
        clear hg hown' B3
        go_wp2
        go_roundw
        case rel => exact ⟨k + 1, _, by omega, by go_num, HE⟩
        case measure => simp [intOf]; omega
    · have hkn : k = C := by omega
      obtain ⟨tq, tc, rfl⟩ := own_slice HT.out.own
      have HEND := Lib.hid (fun W g y x0 x1 x2 => HT.out.lastR (W := W) (tq := tq) (tc := tc) (A := A) (k0 := 2) (k1 := k1) (k2 := k2) (g := g) (D := D) HA.out (by have := HC.out; omega) y x0 x1 x2)
      subst hkn
      have e0 := HT.out.call 0 _ rfl
      have e1 := HT.out.call 1 _ rfl
      have e2 := HT.out.call 2 _ rfl
      have e3 := HT.out.call 3 _ rfl
      have e4 := HT.out.call 4 _ rfl
      have e5 := HT.out.call 5 _ rfl
      have e6 := HT.out.call 6 _ rfl
      go_wp2_with (first
        | (go_at_call 35; refine (HSP.out _ HT.out.below).mono ?_; rintro e w1 ⟨rfl, hb⟩; have HB1 := Lib.hid (hb.alloc hb.size (.cells #[.int .u64 a0, .int .i64 sz] 47)); have l0 := HT.out.lay0 HB1.out 0 rfl; have l1 := HT.out.lay0 HB1.out 1 rfl; have l2 := HT.out.lay0 HB1.out 2 rfl)
        | (go_at_call 51; refine (HBY.out _ (below_next HT.out.below HB1.out)).mono ?_; rintro e w2 ⟨g, rfl, hb2, hrow⟩; have HB2 := Lib.hid (below_next HB1.out hb2); have HROW := Lib.hid hrow; have j0 := HT.out.told0 HB2.out 0 rfl; have j1 := HT.out.told0 HB2.out 1 rfl; have j2 := HT.out.told0 HB2.out 2 rfl; have r0 := HT.out.res0 HB2.out 0 rfl; have r1 := HT.out.res0 HB2.out 1 rfl; have r2 := HT.out.res0 HB2.out 2 rfl; have fz0 := fun i => (HT.out.fz0 HB2.out i).1; have fz1 := fun i => (HT.out.fz0 HB2.out i).2; clear hrow hb2))
      have HE := HEND.out w2 g (.slice (some ⟨g, 0, none⟩) D.length D.length) (.int .i64 n) (.slice tq k tc) (.slice (some ⟨g, 0, none⟩) D.length D.length) HB2.out HROW.out
      refine bodyPost_ret (v := .agg #[.int .i64 n, .slice tq k tc, .slice (some ⟨g, 0, none⟩) D.length D.length]) (by simp [results, Tryd.results31, go_sem, r0, r1, r2]) rfl ⟨tq, tc, some ⟨g, 0, none⟩, D.length, by rw [tdL_length], HE.1, by rw [tdL_length]; exact HE.2.1, HE.2.2.1, HE.2.2.2⟩
end Go.Proofs.YthckkdkijajadaaDoor
