/- Contract of told: what is told of a call. -/
import Derived.Test.YthckkdkijajadaaDoorMM
import Derived.Test.YthckkdkijajadaaDoorMN
namespace Go.Proofs.YthckkdkijajadaaDoor
open Go.RowKit M

/-- what is told of the first k arguments -/
def tdF (k0 k1 k2 : Int) (A : List Int) (i : Nat) : Int := if isAddr (k3 k0 k1 k2 i) = true then 0 else A.getD i 0
def tdL (k0 k1 k2 : Int) (A : List Int) (k : Nat) : List Int := (List.range k).map (tdF k0 k1 k2 A)
theorem tdL_length (k0 k1 k2 : Int) (A : List Int) (k : Nat) : (tdL k0 k1 k2 A k).length = k := by simp [tdL]
theorem tdL_snoc (k0 k1 k2 : Int) (A : List Int) (k : Nat) : tdL k0 k1 k2 A (k + 1) = tdL k0 k1 k2 A k ++ [tdF k0 k1 k2 A k] := by simp [tdL, List.range_succ]
def wordsV (xs : List Int) : List Value := xs.map (Value.int .u64)
theorem wordsV_length (xs : List Int) : (wordsV xs).length = xs.length := by simp [wordsV]
theorem wordsV_snoc (xs : List Int) (x : Int) : wordsV (xs ++ [x]) = wordsV xs ++ [.int .u64 x] := by simp [wordsV]
theorem info22 : (Tryd.prog.info? 22).map (fun i => (i.zero, i.size, i.bytes)) = some (some (.int .u64 0), 1, 8) := by kernel_rfl
theorem tdF_bd {k0 k1 k2 : Int} {A : List Int} {w : World} {q : Option Addr} (h : WordsAt w q A) {i : Nat} (hi : i < A.length) : 0 ≤ tdF k0 k1 k2 A i ∧ tdF k0 k1 k2 A i < 18446744073709551616 := by
  unfold tdF; split
  · exact ⟨by decide, by decide⟩
  · exact h.bd i hi
/-- words that a row of the call's own holds lie in memory -/
theorem words_of_owns {w : World} {base : Nat} {v : Value} {xs : List Int} (hs : xs.length ≤ 17592186044154) (hb : ∀ j, j < xs.length → 0 ≤ xs.getD j 0 ∧ xs.getD j 0 < 18446744073709551616) (h : w.ownsRow base 22 1 v xs.length (wordsV xs)) :
    ∃ q c, v = .slice q xs.length c ∧ xs.length ≤ c ∧ WordsAt w q xs := by
  by_cases hn : 0 < xs.length
  · obtain ⟨g, cap, cur, hv, _, hg, hcap, _, _, hc⟩ := owns_cells h hn
    refine ⟨_, cap, hv, hcap, hs, fun j hj => ⟨g, 0, rfl, hg, ?_⟩, hb⟩
    rw [Nat.zero_add]
    exact hc j _ hj (by simp [wordsV, hj])
  · have e : xs = [] := by cases xs; rfl; simp at hn
    subst e
    obtain ⟨_, ⟨rfl, _⟩ | ⟨g, cap, _, rfl, _⟩⟩ := h
    · exact ⟨_, _, rfl, Nat.zero_le _, WordsAt.nil w _⟩
    · exact ⟨_, _, rfl, Nat.zero_le _, WordsAt.nil w _⟩
theorem own_setCell {w : World} {base : Nat} {e : TypeId} {size : Nat} {v : Value} {n : Nat} {xs : List Value} (h : w.ownsRow base e size v n xs) {a : Addr} (ha : a.block < base) (u : Value) : (w.setCell a u).ownsRow base e size v n xs := by
  obtain ⟨hl, h | ⟨g, cap, cur, hv, hg, hh, r⟩⟩ := h
  · exact ⟨hl, .inl h⟩
  · exact ⟨hl, .inr ⟨g, cap, cur, hv, hg, by rw [Below.heap_setCell _ _ _ _ (by omega)]; exact hh, r⟩⟩

/-- told's loop: its boxes and the words told so far -/
structure TdSt (w wr : World) (cs : List Value) (ls : List Value) (n : Int) (v : Value) (k : Nat) (T : List Int) : Prop where
  size : w.heap.size + 4 ≤ wr.heap.size
  below : Below w.heap.size w wr
  call : ∀ i u, cs[i]? = some u → wr.cell? ⟨w.heap.size, i, none⟩ = some u
  lay : ∀ i u, ls[i]? = some u → wr.cell? ⟨w.heap.size + 1, i, none⟩ = some u
  res : ∀ i u, [Value.int .i64 0, .slice none 0 0, .slice none 0 0][i]? = some u → wr.cell? ⟨w.heap.size + 1 + 1, i, none⟩ = some u
  fres : ∀ i, wr.frozen? ⟨w.heap.size + 1 + 1, i, none⟩ = false
  told : ∀ i u, [Value.int .i64 n, v, .slice none 0 0][i]? = some u → wr.cell? ⟨w.heap.size + 1 + 1 + 1, i, none⟩ = some u
  ftold : ∀ i, wr.frozen? ⟨w.heap.size + 1 + 1 + 1, i, none⟩ = false
  own : wr.ownsRow (w.heap.size + 4) 22 1 v k (wordsV T)
theorem TdSt.start (w : World) (cs ls : List Value) (t1 t2 t3 : TypeId) (n : Int) :
    TdSt w ((((w.alloc (.cells cs.toArray t1)).alloc (.cells ls.toArray t2)).alloc (.cells #[.int .i64 0, .slice none 0 0, .slice none 0 0] t3)).alloc (.cells #[.int .i64 n, .slice none 0 0, .slice none 0 0] t3)) cs ls n (.slice none 0 0) 0 [] := by
  have a1 : ∀ (W : World) (o : Obj) (p : Addr), p.block < W.heap.size → (W.alloc o).cell? p = W.cell? p := fun W o p hp => ((Below.refl W.heap.size W).alloc (Nat.le_refl _) o).cell hp
  have f1 : ∀ (W : World) (cs : Array Value) (t : TypeId) (i : Nat), (W.alloc (.cells cs t)).frozen? ⟨W.heap.size, i, none⟩ = false := fun W cs t i => by rw [frozen?_alloc_cells]; simp [World.frozen?]
  have f2 : ∀ (W : World) (o : Obj) (p : Addr), p.block < W.heap.size → (W.alloc o).frozen? p = W.frozen? p := fun W o p hp => ((Below.refl W.heap.size W).alloc (Nat.le_refl _) o).frozen hp
  refine ⟨by simp, (((((Below.refl _ _).alloc (Nat.le_refl _) _).alloc (by simp) _).alloc (by simp; omega) _).alloc (by simp; omega) _), fun i u hi => ?_, fun i u hi => ?_, fun i u hi => ?_, fun i => ?_, fun i u hi => ?_, fun i => ?_, ⟨rfl, .inl ⟨rfl, rfl⟩⟩⟩
  · rw [a1 _ _ _ (by simp; omega), a1 _ _ _ (by simp; omega), a1 _ _ _ (by simp)]
    exact cell_new w (by simpa using hi)
  · rw [a1 _ _ _ (by simp), a1 _ _ _ (by simp)]
    have := cell_new (w.alloc (.cells cs.toArray t1)) (cs := ls.toArray) (t := t2) (fr := (0, 0)) (i := i) (v := u) (by simpa using hi)
    rwa [World.size_alloc] at this
  · rw [a1 _ _ _ (by simp)]
    have := cell_new ((w.alloc (.cells cs.toArray t1)).alloc (.cells ls.toArray t2)) (cs := #[.int .i64 0, .slice none 0 0, .slice none 0 0]) (t := t3) (fr := (0, 0)) (i := i) (v := u) (by simpa using hi)
    rwa [World.size_alloc, World.size_alloc] at this
  · rw [f2 _ _ _ (by simp)]
    have := f1 ((w.alloc (.cells cs.toArray t1)).alloc (.cells ls.toArray t2)) #[.int .i64 0, .slice none 0 0, .slice none 0 0] t3 i
    rwa [World.size_alloc, World.size_alloc] at this
  · have := cell_new (((w.alloc (.cells cs.toArray t1)).alloc (.cells ls.toArray t2)).alloc (.cells #[.int .i64 0, .slice none 0 0, .slice none 0 0] t3)) (cs := #[.int .i64 n, .slice none 0 0, .slice none 0 0]) (t := t3) (fr := (0, 0)) (i := i) (v := u) (by simpa using hi)
    rwa [World.size_alloc, World.size_alloc, World.size_alloc] at this
  · have := f1 (((w.alloc (.cells cs.toArray t1)).alloc (.cells ls.toArray t2)).alloc (.cells #[.int .i64 0, .slice none 0 0, .slice none 0 0] t3)) #[.int .i64 n, .slice none 0 0, .slice none 0 0] t3 i
    rwa [World.size_alloc, World.size_alloc, World.size_alloc] at this
theorem TdSt.step {w wr w3 : World} {cs ls : List Value} {n : Int} {v v' : Value} {k : Nat} {T T' : List Int} (h : TdSt w wr cs ls n v k T) {o : Obj} (hg : (wr.alloc o).grownBy w3 v.ownBlock) (ho : w3.ownsRow (w.heap.size + 4) 22 1 v' (k + 1) (wordsV T')) :
    TdSt w (w3.setCell ⟨w.heap.size + 1 + 1 + 1, 1, none⟩ v') cs ls n v' (k + 1) T' := by
  have B : Below (w.heap.size + 4) wr w3 := ((Below.refl _ wr).alloc h.size o).grown hg (by have := h.size; simp; omega) (own_ge h.own)
  have hc : ∀ b i, b < w.heap.size + 4 → w3.cell? ⟨b, i, none⟩ = wr.cell? ⟨b, i, none⟩ := fun b i hb => B.cell (p := ⟨b, i, none⟩) hb
  have ho3 : ∀ b i, b ≠ w.heap.size + 1 + 1 + 1 → (w3.setCell ⟨w.heap.size + 1 + 1 + 1, 1, none⟩ v').cell? ⟨b, i, none⟩ = w3.cell? ⟨b, i, none⟩ := fun b i hb => World.cell?_setCell_other _ _ _ _ (fun e => hb (congrArg Addr.block e).symm)
  have hz : (w3.setCell ⟨w.heap.size + 1 + 1 + 1, 1, none⟩ v').heap.size = w3.heap.size := by simp [World.setCell]
  refine ⟨by rw [hz]; exact Nat.le_trans h.size B.size, (h.below.trans (B.mono (by omega))).setCell (p := ⟨w.heap.size + 1 + 1 + 1, 1, none⟩) (by show _ ≤ w.heap.size + 1 + 1 + 1; omega) _, fun i u hi => ?_, fun i u hi => ?_, fun i u hi => ?_, fun i => ?_, fun i u hi => ?_, fun i => ?_, own_setCell ho (by show w.heap.size + 1 + 1 + 1 < _; omega) _⟩
  · rw [ho3 _ _ (by omega), hc _ _ (by omega)]; exact h.call i u hi
  · rw [ho3 _ _ (by omega), hc _ _ (by omega)]; exact h.lay i u hi
  · rw [ho3 _ _ (by omega), hc _ _ (by omega)]; exact h.res i u hi
  · rw [World.frozen?_setCell, B.frozen (p := ⟨w.heap.size + 1 + 1, i, none⟩) (by show w.heap.size + 1 + 1 < _; omega)]; exact h.fres i
  · by_cases h1 : i = 1
    · subst h1
      have e : u = v' := by simpa using hi.symm
      subst e
      exact World.cell?_setCell_same _ _ _ ((hc _ _ (by omega)).trans (h.told 1 _ rfl))
    · rw [World.cell?_setCell_other _ _ _ _ (fun e => h1 (congrArg Addr.off e).symm), hc _ _ (by omega)]
      refine h.told i u ?_
      match i, h1 with
      | 0, _ => exact hi
      | 2, _ => exact hi
      | i + 3, _ => simp at hi
  · rw [World.frozen?_setCell, B.frozen (p := ⟨w.heap.size + 1 + 1 + 1, i, none⟩) (by show w.heap.size + 1 + 1 + 1 < _; omega)]; exact h.ftold i
/-- what is told of a call -/
def ToldPost (n : Int) (T D : List Int) (w : World) (e : Ending) (w' : World) : Prop :=
  ∃ tq tc dq dc, e = .returned (.agg #[.int .i64 n, .slice tq T.length tc, .slice dq D.length dc]) ∧ Below w.heap.size w w' ∧ T.length ≤ tc ∧ WordsAt w' tq T ∧ RowAt w' dq D
theorem TdSt.told1 {w wr w1 : World} {cs ls : List Value} {n : Int} {v : Value} {k : Nat} {T : List Int} (h : TdSt w wr cs ls n v k T) (hb : Below wr.heap.size wr w1) (i : Nat) {u : Value} (hi : [Value.int .i64 n, v, .slice none 0 0][i]? = some u) : ∀ o, (w1.alloc o).cell? ⟨w.heap.size + 1 + 1 + 1, i, none⟩ = some u :=
  fun o => ((hb.alloc hb.size o).cell (p := ⟨w.heap.size + 1 + 1 + 1, i, none⟩) (by have := h.size; show w.heap.size + 1 + 1 + 1 < _; omega)).trans (h.told i u hi)
theorem TdSt.res1 {w wr w1 : World} {cs ls : List Value} {n : Int} {v : Value} {k : Nat} {T : List Int} (h : TdSt w wr cs ls n v k T) (hb : Below wr.heap.size wr w1) (i : Nat) {u : Value} (hi : [Value.int .i64 0, .slice none 0 0, .slice none 0 0][i]? = some u) : ∀ o, (w1.alloc o).cell? ⟨w.heap.size + 1 + 1, i, none⟩ = some u :=
  fun o => ((hb.alloc hb.size o).cell (p := ⟨w.heap.size + 1 + 1, i, none⟩) (by have := h.size; show w.heap.size + 1 + 1 < _; omega)).trans (h.res i u hi)
theorem TdSt.fres1 {w wr w1 : World} {cs ls : List Value} {n : Int} {v : Value} {k : Nat} {T : List Int} (h : TdSt w wr cs ls n v k T) (hb : Below wr.heap.size wr w1) : ∀ o i, (w1.alloc o).frozen? ⟨w.heap.size + 1 + 1, i, none⟩ = false :=
  fun o i => ((hb.alloc hb.size o).frozen (p := ⟨w.heap.size + 1 + 1, i, none⟩) (by have := h.size; show w.heap.size + 1 + 1 < _; omega)).trans (h.fres i)
theorem own_words {w : World} {base c : Nat} {q : Option Addr} {xs : List Int} (hs : xs.length ≤ 17592186044154) (hb : ∀ j, j < xs.length → 0 ≤ xs.getD j 0 ∧ xs.getD j 0 < 18446744073709551616) (h : w.ownsRow base 22 1 (.slice q xs.length c) xs.length (wordsV xs)) : xs.length ≤ c ∧ WordsAt w q xs := by
  obtain ⟨q', c', e, h1, h2⟩ := words_of_owns hs hb h
  injection e with e1 e2 e3
  subst e1 e3
  exact ⟨h1, h2⟩
theorem TdSt.last {w wr w1 : World} {cs ls : List Value} {n : Int} {k : Nat} {tq : Option Addr} {tc : Nat} {A : List Int} {k0 k1 k2 : Int} {W : World} {q : Option Addr} (h : TdSt w wr cs ls n (.slice tq k tc) k (tdL k0 k1 k2 A k)) (hA : WordsAt W q A) (hk : k ≤ A.length) (o : Obj) (x0 x1 x2 : Value) (hb : Below wr.heap.size wr w1) :
    Below w.heap.size w ((((w1.alloc o).setCell ⟨w.heap.size + 1 + 1, 0, none⟩ x0).setCell ⟨w.heap.size + 1 + 1, 1, none⟩ x1).setCell ⟨w.heap.size + 1 + 1, 2, none⟩ x2) ∧ k ≤ tc ∧ WordsAt ((((w1.alloc o).setCell ⟨w.heap.size + 1 + 1, 0, none⟩ x0).setCell ⟨w.heap.size + 1 + 1, 1, none⟩ x1).setCell ⟨w.heap.size + 1 + 1, 2, none⟩ x2) tq (tdL k0 k1 k2 A k) := by
  have hs := h.size
  have b1 : Below wr.heap.size wr (w1.alloc o) := hb.alloc hb.size o
  have ho : (w1.alloc o).ownsRow (w.heap.size + 4) 22 1 (.slice tq k tc) k (wordsV (tdL k0 k1 k2 A k)) := ownsRow_go h.own b1
  have ho3 := own_setCell (own_setCell (own_setCell ho (a := ⟨w.heap.size + 1 + 1, 0, none⟩) (by show w.heap.size + 1 + 1 < _; omega) x0) (a := ⟨w.heap.size + 1 + 1, 1, none⟩) (by show w.heap.size + 1 + 1 < _; omega) x1) (a := ⟨w.heap.size + 1 + 1, 2, none⟩) (by show w.heap.size + 1 + 1 < _; omega) x2
  have hl : (tdL k0 k1 k2 A k).length = k := tdL_length ..
  have hw := own_words (xs := tdL k0 k1 k2 A k) (c := tc) (q := tq) (by rw [hl]; have := hA.small; omega) (fun j hj => by rw [hl] at hj; rw [show (tdL k0 k1 k2 A k).getD j 0 = tdF k0 k1 k2 A j by simp [tdL, hj]]; exact tdF_bd hA (by omega)) (by rw [hl]; exact ho3)
  rw [hl] at hw
  exact ⟨(((h.below.trans (b1.mono (by omega))).setCell (p := ⟨w.heap.size + 1 + 1, 0, none⟩) (by show w.heap.size ≤ w.heap.size + 1 + 1; omega) x0).setCell (p := ⟨w.heap.size + 1 + 1, 1, none⟩) (by show w.heap.size ≤ w.heap.size + 1 + 1; omega) x1).setCell (p := ⟨w.heap.size + 1 + 1, 2, none⟩) (by show w.heap.size ≤ w.heap.size + 1 + 1; omega) x2, hw⟩
theorem TdSt.kind {w wr : World} {nm : ByteArray} {k0 k1 k2 n n' : Int} {x y v : Value} {ls : List Value} {k : Nat} {T : List Int} (h : TdSt w wr [.string nm, .int .i64 k0, .int .i64 k1, .int .i64 k2, x, .int .i64 n', y] ls n v k T) {i : Nat} (hi : i < 3) :
    wr.cell? ⟨w.heap.size, 1 + i, none⟩ = some (.int .i64 (k3 k0 k1 k2 i)) := by
  refine h.call (1 + i) _ ?_
  match i, hi with
  | 0, _ => rfl
  | 1, _ => rfl
  | 2, _ => rfl
set_option maxRecDepth 100000 in
set_option maxHeartbeats 1000000 in
theorem told_plain (nm : ByteArray) (k0 k1 k2 m n : Int) (q : Option Addr) (A : List Int) (cc : Nat) (c : Int) (cw : Bool) (p : Option Addr) (len cap : Nat) (mp : Option Addr) (mn mc : Nat) (w : World) (hA : WordsAt w q A) (hC : A.length ≤ 3) (hi : idx3 k0 k1 k2 2 = -1) :
    Calls Tryd.prog 31 #[.agg #[.string nm, .int .i64 k0, .int .i64 k1, .int .i64 k2, .int .i64 m, .int .i64 n, .slice q A.length cc], .agg #[.int .i64 c, .bool cw, .slice p len cap], .slice mp mn mc] w (ToldPost n (tdL k0 k1 k2 A A.length) [] w) := by
  have HA := Lib.hid hA
  obtain ⟨i5, h5, g5, s5, b5⟩ := info_parts info22
  have H5 := Lib.hid h5
  have G5 := Lib.hid g5
  have S5 := Lib.hid s5
  have B5 := Lib.hid b5
  clear h5 g5 s5 b5 hA
  have HSP := Lib.hid (fun W => span_none nm k0 k1 k2 m n 2 q A.length cc W hi)
  obtain ⟨C, hCC⟩ : ∃ C, A.length = C := ⟨_, rfl⟩
  have HC := Lib.hid hCC
  rw [hCC] at HSP hC ⊢
  have H0 := Lib.hid (TdSt.start w [.string nm, .int .i64 k0, .int .i64 k1, .int .i64 k2, .int .i64 m, .int .i64 n, .slice q C cc] [.int .i64 c, .bool cw, .slice p len cap] 74 27 35 n)
  clear hi hCC
  go_enter Tryd.func31, Tryd.ntmps31
  go_wp2
  go_loopw [17] (fun i wx => ∃ (k : Nat) (v : Value), k ≤ C ∧ i = .int .i64 k ∧ Hid (TdSt w wx [.string nm, .int .i64 k0, .int .i64 k1, .int .i64 k2, .int .i64 m, .int .i64 n, .slice q C cc] [.int .i64 c, .bool cw, .slice p len cap] n v k (tdL k0 k1 k2 A k))) (fun i _ => C - (intOf i).toNat)
  case atStart => exact ⟨0, _, Nat.zero_le _, rfl, H0.out⟩
  case round =>
    obtain ⟨k, v, hk, rfl, HT⟩ := hrel
    have hsz := HT.out.size
    by_cases hlt : k < C
    · have d0 := HT.out.kind (i := k) (by omega)
      obtain ⟨b, off, rfl, hbl, d1⟩ := (HA.out.below HT.out.below).cells k (by rw [HC.out]; exact hlt)
      have t1 := HT.out.told 1 _ rfl
      have ft1 := HT.out.ftold 1
      have hk3 : k < 3 := by omega
      have HF := Lib.hid (tdL_snoc k0 k1 k2 A k)
      have hF : tdF k0 k1 k2 A k = if isAddr (k3 k0 k1 k2 k) = true then 0 else A.getD k 0 := rfl
      generalize k3 k0 k1 k2 k = kk at d0 hF
      generalize A.getD k 0 = x at d1 hF
      generalize tdF k0 k1 k2 A k = y at hF HF
      have hend : ∀ w3 v', (wr.alloc (.cells #[.int .u64 y] 22)).grownBy w3 v.ownBlock → w3.ownsRow (w.heap.size + 4) 22 1 v' (k + 1) (wordsV (tdL k0 k1 k2 A k) ++ [.int .u64 y]) → Hid (TdSt w (w3.setCell ⟨w.heap.size + 1 + 1 + 1, 1, none⟩ v') [.string nm, .int .i64 k0, .int .i64 k1, .int .i64 k2, .int .i64 m, .int .i64 n, .slice (some ⟨b, off, none⟩) C cc] [.int .i64 c, .bool cw, .slice p len cap] n v' (k + 1) (tdL k0 k1 k2 A (k + 1))) :=
        fun w3 v' hg ho => HT.out.step hg (by rw [HF.out, wordsV_snoc]; exact ho)
      have HEND := Lib.hid hend
      clear hend
      cases ha : isAddr kk
      · have HIA := Lib.hid ha
        rw [ha, if_neg (by simp)] at hF
        subst hF
        clear ha
        go_wp2_with (first
          | (go_at_call 44; refine (isAddr_is _ _ HIA.out).mono ?_; rintro e w1 ⟨rfl, rfl⟩)
          | (at_builtin; refine wpList_append_own _ rfl (.tmp 29) (.tmp 31) 32 rfl (w.heap.size + 4) 22 i5 _ 1 8 Tryd.underlying32 H5.out G5.out S5.out B5.out rfl (by decide) _ _ _ rfl (HT.out.own.alloc _) ⟨wr.heap.size, 0, none⟩ 1 1 [.int .u64 y] rfl rfl ?c1 ?c2 ?c3 ?c4 ?c5 ?_))
        case c1 => exact cell_one_new _ _ _
        case c2 => simp [Value.oneCell']
        case c3 => simp only [maxLen]; omega
        case c4 => omega
        case c5 => simp; omega
        intro v' w3 hown' hg _
        obtain ⟨p', c', rfl⟩ := own_slice hown'
        have HE := HEND.out w3 _ hg hown'
        have B3 : Below (w.heap.size + 4) wr w3 := ((Below.refl _ wr).alloc hsz _).grown hg (by simp; omega) (own_ge HT.out.own)
        have u1 := (B3.cell (p := ⟨w.heap.size + 1 + 1 + 1, 1, none⟩) (by show w.heap.size + 1 + 1 + 1 < _; omega)).trans (HT.out.told 1 _ rfl)
        have u2 := (B3.frozen (p := ⟨w.heap.size + 1 + 1 + 1, 1, none⟩) (by show w.heap.size + 1 + 1 + 1 < _; omega)).trans (HT.out.ftold 1)
        clear hg hown' B3
        go_wp2
        go_roundw
        case rel => exact ⟨k + 1, _, by omega, by go_num, HE⟩
        case measure => simp [intOf]; omega
      · have HIA := Lib.hid ha
        rw [ha, if_pos rfl] at hF
        subst hF
        clear ha
        go_wp2_with (first
          | (go_at_call 44; refine (isAddr_is _ _ HIA.out).mono ?_; rintro e w1 ⟨rfl, rfl⟩)
          | (at_builtin; refine wpList_append_own _ rfl (.tmp 29) (.tmp 31) 32 rfl (w.heap.size + 4) 22 i5 _ 1 8 Tryd.underlying32 H5.out G5.out S5.out B5.out rfl (by decide) _ _ _ rfl (HT.out.own.alloc _) ⟨wr.heap.size, 0, none⟩ 1 1 [.int .u64 0] rfl rfl ?c1 ?c2 ?c3 ?c4 ?c5 ?_))
        case c1 => exact cell_one_new _ _ _
        case c2 => simp [Value.oneCell']
        case c3 => simp only [maxLen]; omega
        case c4 => omega
        case c5 => simp; omega
        intro v' w3 hown' hg _
        obtain ⟨p', c', rfl⟩ := own_slice hown'
        have HE := HEND.out w3 _ hg hown'
        have B3 : Below (w.heap.size + 4) wr w3 := ((Below.refl _ wr).alloc hsz _).grown hg (by simp; omega) (own_ge HT.out.own)
        have u1 := (B3.cell (p := ⟨w.heap.size + 1 + 1 + 1, 1, none⟩) (by show w.heap.size + 1 + 1 + 1 < _; omega)).trans (HT.out.told 1 _ rfl)
        have u2 := (B3.frozen (p := ⟨w.heap.size + 1 + 1 + 1, 1, none⟩) (by show w.heap.size + 1 + 1 + 1 < _; omega)).trans (HT.out.ftold 1)
        clear hg hown' B3
        go_wp2
        go_roundw
        case rel => exact ⟨k + 1, _, by omega, by go_num, HE⟩
        case measure => simp [intOf]; omega
    · have hkn : k = C := by omega
      obtain ⟨tq, tc, rfl⟩ := own_slice HT.out.own
      have HEND := Lib.hid (fun w1 o x0 x1 x2 => HT.out.last (w1 := w1) (tq := tq) (tc := tc) (A := A) (k0 := k0) (k1 := k1) (k2 := k2) HA.out (by have := HC.out; omega) o x0 x1 x2)
      subst hkn
      have e0 := HT.out.call 0 _ rfl
      have e1 := HT.out.call 1 _ rfl
      have e2 := HT.out.call 2 _ rfl
      have e3 := HT.out.call 3 _ rfl
      have e4 := HT.out.call 4 _ rfl
      have e5 := HT.out.call 5 _ rfl
      have e6 := HT.out.call 6 _ rfl
      go_wp2_with (go_at_call 35; refine (HSP.out _).mono ?_; rintro e w1 ⟨rfl, hb⟩; have j0 := HT.out.told1 hb 0 rfl; have j1 := HT.out.told1 hb 1 rfl; have j2 := HT.out.told1 hb 2 rfl; have l0 := HT.out.res1 hb 0 rfl; have l1 := HT.out.res1 hb 1 rfl; have l2 := HT.out.res1 hb 2 rfl; have fz := HT.out.fres1 hb)
      have HE := HEND.out w1 (.cells #[.int .u64 0, .int .i64 0] 47) (.int .i64 n) (.slice tq k tc) (.slice none 0 0) hb
      refine bodyPost_ret (v := .agg #[.int .i64 n, .slice tq k tc, .slice none 0 0]) (by simp [results, Tryd.results31, go_sem, l0, l1, l2]) rfl ⟨tq, tc, none, 0, by rw [tdL_length]; rfl, HE.1, by rw [tdL_length]; exact HE.2.1, HE.2.2, RowAt.nil _ _⟩
end Go.Proofs.YthckkdkijajadaaDoor
