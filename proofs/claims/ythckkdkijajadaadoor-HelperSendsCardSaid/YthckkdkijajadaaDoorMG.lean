/- The world of a law over a layout: what every call of a law leaves as it was; MemFresh's facts. -/
import Derived.Test.YthckkdkijajadaaDoorMF

/- The world of a law over a layout: what every call of a law leaves as it was; MemFresh's facts. -/
namespace Go.Proofs.YthckkdkijajadaaDoor
open Go.RowKit M

/-- a world behind a law's first operation: the layout's own box, the maps, the errors -/
structure LawW (s : Nat → Addr) (w W : World) (c : Int) (cw : Bool) (q : Option Addr) (len cap : Nat) (ms : List Ar) : Prop where
  below : Below w.heap.size w W
  sent : Sent W s
  maps : MapsAt W q len ms
  b0 : W.cell? ⟨w.heap.size, 0, none⟩ = some (.int .i64 c)
  b1 : W.cell? ⟨w.heap.size, 1, none⟩ = some (.bool cw)
  b2 : W.cell? ⟨w.heap.size, 2, none⟩ = some (.slice q len cap)
  size : w.heap.size < W.heap.size
theorem LawW.next {s : Nat → Addr} {w W W' : World} {c : Int} {cw : Bool} {q : Option Addr} {len cap : Nat} {ms : List Ar} (h : LawW s w W c cw q len cap ms) (hb : Below W.heap.size W W') : LawW s w W' c cw q len cap ms :=
  ⟨below_next h.below hb, h.sent.below hb, h.maps.below hb, (hb.cell (p := ⟨w.heap.size, 0, none⟩) h.size).trans h.b0, (hb.cell (p := ⟨w.heap.size, 1, none⟩) h.size).trans h.b1, (hb.cell (p := ⟨w.heap.size, 2, none⟩) h.size).trans h.b2, Nat.lt_of_lt_of_le h.size hb.size⟩
theorem LawW.drew {s : Nat → Addr} {w W : World} {c : Int} {cw : Bool} {q : Option Addr} {len cap : Nat} {ms : List Ar} (h : LawW s w W c cw q len cap ms) : LawW s w W.drew c cw q len cap ms := h.next (Below.refl _ _).drew
theorem LawW.alloc {s : Nat → Addr} {w W : World} {c : Int} {cw : Bool} {q : Option Addr} {len cap : Nat} {ms : List Ar} (h : LawW s w W c cw q len cap ms) (o : Obj) : LawW s w (W.alloc o) c cw q len cap ms := h.next ((Below.refl _ _).alloc (Nat.le_refl _) o)
theorem LawW.first {s : Nat → Addr} {w : World} {c : Int} {cw : Bool} {q : Option Addr} {len cap : Nat} {ms : List Ar} (hs : Sent w s) (hm : MapsAt w q len ms) : LawW s w (w.alloc (.cells #[.int .i64 c, .bool cw, .slice q len cap] 27)) c cw q len cap ms :=
  ⟨(Below.refl _ _).alloc (Nat.le_refl _) _, hs.below ((Below.refl _ _).alloc (Nat.le_refl _) _), hm.alloc _, cell_new w rfl, cell_new w rfl, cell_new w rfl, by simp⟩

/-- a fresh memory is its layout's -/
theorem may_fresh {c : Int} {ms : List Ar} {len : Nat} (hl : len = ms.length) (ho : okL c ms = true) : mayB c ms len (freshM (zOf c ms) (len + 2)) = true := by
  simp only [mayB, ho, Bool.true_and]
  refine decide_eq_true ⟨by simp [freshM], fun i hi => ?_⟩
  have := szOf_bd hl ho hi
  have e : (freshM (zOf c ms) (len + 2)).getD i [] = List.replicate (zOf c ms i) 0 := by simp [freshM, hi]
  rw [e, List.length_replicate]
  unfold zOf
  omega
/-- what MemFresh reads -/
theorem fresh_read {c : Int} {cw : Bool} {ms : List Ar} {len : Nat} {r o : Int} (hl : len = ms.length) (ho : okL c ms = true) (hr : hasReg len r = true) (h0 : 0 ≤ o) (h1 : o < (areaOf c cw ms r).size) :
    rdK c cw ms len (freshM (zOf c ms) (len + 2)) (addrOf r o) ((areaOf c cw ms r).size - o) false = 4 ∧
    rdB c cw ms len (freshM (zOf c ms) (len + 2)) (addrOf r o) ((areaOf c cw ms r).size - o) = List.replicate ((areaOf c cw ms r).size - o).toNat 0 ∧
    accN (findK c cw ms len (addrOf r o) ((areaOf c cw ms r).size - o + 1) false) ≠ 0 := by
  obtain ⟨g1, g2⟩ : 1 ≤ r ∧ r < 3 + (len : Int) := by simpa [hasReg] using hr
  have h8 := (okL_parts ho).2.1
  have hbd := areaOf_bd (wr := cw) hl ho hr
  have e1 : regOf (addrOf r o) = r ∧ offOf (addrOf r o) = o := by
    simp only [regOf, offOf, addrOf, IntKind.wrap_u64]
    omega
  have hB : areaB c ms len r = true := by simp [areaB, ho, hr]
  have hA : areaR c cw ms len r = areaOf c cw ms r := by simp [areaR, ho, hr]
  have hK : findK c cw ms len (addrOf r o) ((areaOf c cw ms r).size - o) false = 4 := by
    unfold findK
    rw [e1.1, e1.2, hB, hA, inB_true ⟨by omega, by omega⟩, if_neg (by simp), if_neg (by simp), if_neg (by omega), if_neg (by simp)]
  have hR : rdK c cw ms len (freshM (zOf c ms) (len + 2)) (addrOf r o) ((areaOf c cw ms r).size - o) false = 4 := by
    unfold rdK; rw [if_pos (may_fresh hl ho)]; exact hK
  refine ⟨hR, ?_, ?_⟩
  · unfold rdB
    rw [if_pos hR, e1.1, e1.2]
    obtain ⟨i, hi⟩ : ∃ i : Nat, r = (i : Int) + 1 := ⟨(r - 1).toNat, by omega⟩
    subst hi
    have hi2 : i < len + 2 := by omega
    have e2 : ((i : Int) + 1 - 1).toNat = i := by omega
    have e3 : (freshM (zOf c ms) (len + 2)).getD i [] = List.replicate (zOf c ms i) 0 := by simp [freshM, hi2]
    rw [e2, e3, szOf_eq]
    rw [szOf_eq] at h1 hbd
    have e4 : zOf c ms i = (szOf c ms i).toNat := rfl
    simp only [cut, List.drop_replicate, List.take_replicate]
    congr 1
    omega
  · unfold findK
    rw [e1.1, e1.2, hB, hA]
    by_cases hb : inB ((areaOf c cw ms r).size - o + 1) 1 = false
    · rw [if_pos hb]; decide
    · rw [if_neg hb, if_neg (by simp), if_pos (by omega)]; decide
end Go.Proofs.YthckkdkijajadaaDoor

/- Plain facts: what is stored is read back, and all that does not lie there is as it was. -/
namespace Go.Proofs.YthckkdkijajadaaDoor
open Go.RowKit M

theorem fillM_row {M : List (List Int)} {r o : Nat} {bs : List Int} (hr : r < M.length) (i : Nat) : (fillM M r o bs).getD i [] = if i = r then splice (M.getD r []) o bs else M.getD i [] := getD_set hr
theorem fillM_rowlen {M : List (List Int)} {r o : Nat} {bs : List Int} (hr : r < M.length) (hfit : o + bs.length ≤ (M.getD r []).length) (i : Nat) : ((fillM M r o bs).getD i []).length = (M.getD i []).length := by
  rw [fillM_row hr]
  by_cases e : i = r
  · subst e; rw [if_pos rfl]; exact length_splice _ _ _ hfit
  · rw [if_neg e]
theorem may_fill {c : Int} {ms : List Ar} {len : Nat} {M : List (List Int)} {r o : Nat} {bs : List Int} (hr : r < M.length) (hfit : o + bs.length ≤ (M.getD r []).length) (h : mayB c ms len M = true) : mayB c ms len (fillM M r o bs) = true := by
  obtain ⟨h1, h2, h3⟩ := mayB_true h
  simp only [mayB, h1, Bool.true_and]
  exact decide_eq_true ⟨by rw [fillM_length]; exact h2, fun i hi => by rw [fillM_rowlen hr hfit]; exact h3 i hi⟩
theorem findK_read {c : Int} {cw : Bool} {ms : List Ar} {len : Nat} {a n : Int} (h : findK c cw ms len a n true = 4) : findK c cw ms len a n false = 4 := by
  obtain ⟨h1, h2, h3, _⟩ := findK_ok h
  unfold findK
  rw [inB_true h1, h2, if_neg (by simp), if_neg (by simp), if_neg (by omega), if_neg (by simp)]
theorem ext_getD {xs ys : List Int} (hl : xs.length = ys.length) (h : ∀ j, j < xs.length → xs.getD j 0 = ys.getD j 0) : xs = ys := by
  apply List.ext_getElem hl
  intro i h1 h2
  have := h i h1
  simpa [h1, h2] using this
/-- what is stored is read -/
theorem read_back {c : Int} {cw : Bool} {ms : List Ar} {len : Nat} {M : List (List Int)} {a x : Int} {n : Nat} (hl : len = ms.length) (hk : rdK c cw ms len M a n true = 4) :
    rdK c cw ms len (fillM M (regOf a - 1).toNat (offOf a).toNat (putL x n)) a n false = 4 ∧ rdB c cw ms len (fillM M (regOf a - 1).toNat (offOf a).toNat (putL x n)) a n = putL x n ∧
    mayB c ms len (fillM M (regOf a - 1).toNat (offOf a).toNat (putL x n)) = true := by
  obtain ⟨h1, h2⟩ := rdK_ok hk
  obtain ⟨r, o, nn, hr, ho, hn, hn1, hn2, hrM, hfit, hL⟩ := granted hl h1 h2
  have hnn : nn = n := by omega
  subst hnn
  rw [hr, ho]
  have hfit' : o + (putL x nn).length ≤ (M.getD r []).length := by rw [putL_length]; exact hfit
  have hm := may_fill (c := c) (ms := ms) (len := len) (M := M) (r := r) (o := o) (bs := putL x nn) hrM hfit' h1
  have hR : rdK c cw ms len (fillM M (r : Int).toNat (o : Int).toNat (putL x nn)) a nn false = 4 := by
    simp only [Int.toNat_natCast]
    unfold rdK; rw [if_pos hm]; exact findK_read h2
  refine ⟨hR, ?_, by simpa using hm⟩
  unfold rdB
  rw [if_pos hR, hr, ho]
  simp only [Int.toNat_natCast]
  have hfl := fillM_rowlen hrM hfit' r
  apply ext_getD
  · rw [cut_length (by rw [hfl]; exact hfit), putL_length]
  · intro j hj
    rw [cut_length (by rw [hfl]; exact hfit)] at hj
    rw [cut_getD hj, fillM_row hrM, if_pos rfl, splice_getD hfit' (by omega), putL_length, if_pos (by omega)]
    congr 1
    omega
/-- one byte that does not lie in what was stored -/
theorem read_other {c : Int} {cw : Bool} {ms : List Ar} {len : Nat} {M : List (List Int)} {a x b : Int} {n : Nat} (hl : len = ms.length) (hk : rdK c cw ms len M a n true = 4) (hout : b < a ∨ a + n ≤ b) :
    rdK c cw ms len (fillM M (regOf a - 1).toNat (offOf a).toNat (putL x n)) b 1 false = rdK c cw ms len M b 1 false ∧ rdB c cw ms len (fillM M (regOf a - 1).toNat (offOf a).toNat (putL x n)) b 1 = rdB c cw ms len M b 1 := by
  obtain ⟨h1, h2⟩ := rdK_ok hk
  obtain ⟨r, o, nn, hr, ho, hn, hn1, hn2, hrM, hfit, hL⟩ := granted hl h1 h2
  have hnn : nn = n := by omega
  subst hnn
  rw [hr, ho]
  simp only [Int.toNat_natCast]
  have hfit' : o + (putL x nn).length ≤ (M.getD r []).length := by rw [putL_length]; exact hfit
  have hm := may_fill (c := c) (ms := ms) (len := len) (M := M) (r := r) (o := o) (bs := putL x nn) hrM hfit' h1
  have hK : rdK c cw ms len (fillM M r o (putL x nn)) b 1 false = rdK c cw ms len M b 1 false := by
    unfold rdK; rw [if_pos hm, if_pos h1]
  refine ⟨hK, ?_⟩
  unfold rdB
  rw [hK]
  by_cases h4 : rdK c cw ms len M b 1 false = 4
  · rw [if_pos h4, if_pos h4]
    obtain ⟨r', o', n', hr', ho', hn', _, _, hrM', hfit2, _⟩ := granted hl h1 (rdK_ok h4).2
    rw [hr', ho']
    have : n' = 1 := by omega
    subst this
    simp only [Int.toNat_natCast, show (1 : Int).toNat = 1 from rfl]
    have hfl := fillM_rowlen hrM hfit' r'
    apply ext_getD
    · rw [cut_length (by rw [hfl]; exact hfit2), cut_length hfit2]
    · intro j hj
      rw [cut_length (by rw [hfl]; exact hfit2)] at hj
      rw [cut_getD hj, cut_getD hj, fillM_row hrM]
      by_cases e : r' = r
      · subst e
        rw [if_pos rfl, splice_getD hfit' (by omega), putL_length, if_neg ?_]
        unfold regOf at hr hr'
        unfold offOf at ho ho'
        omega
      · rw [if_neg e]
  · rw [if_neg h4, if_neg h4]
end Go.Proofs.YthckkdkijajadaaDoor

/- Contracts of the document's own answer: areas, accesses, whose a memory is. -/
namespace Go.Proofs.YthckkdkijajadaaDoor
open Go.RowKit M

set_option maxRecDepth 100000 in
set_option maxHeartbeats 1000000 in
theorem rarea_any (c : Int) (cw : Bool) (q : Option Addr) (len cap : Nat) (ms : List Ar) (r : Int) (w : World) (hm : MapsAt w q len ms) :
    Calls Tryd.prog 24 #[.agg #[.int .i64 c, .bool cw, .slice q len cap], .int .i64 r] w fun e w' =>
      e = .returned (.tuple #[.agg #[.int .i64 (areaR c cw ms len r).size, .bool (areaR c cw ms len r).write], .bool (areaB c ms len r)]) ∧ Below w.heap.size w w' := by
  have HM := Lib.hid hm
  have hsm := hm.small
  have hlen := hm.hlen
  clear hm
  cases ho : okL c ms
  · have e1 : areaR c cw ms len r = none_ := by simp [areaR, ho]
    have e2 : areaB c ms len r = false := by simp [areaB, ho]
    rw [e1, e2]
    have HO := Lib.hid ho
    clear e1 e2 ho hlen
    go_enter Tryd.func24, Tryd.ntmps24
    go_wp2_with (go_at_call 23; refine (rcheck_is _ _ _ _ _ ms _ ((HM.out.alloc _).alloc _) HO.out).mono ?_; rw [chk_false]; rintro e w1 ⟨rfl, hb⟩; obtain ⟨hc, hf⟩ := bcell hb; obtain ⟨hy, hz⟩ := two_in hb)
    refine bodyPost_ret (v := .tuple #[.agg #[.int .i64 0, .bool false], .bool false]) (by simp [results, Tryd.results24, go_sem, hc]) rfl ⟨rfl, ?_⟩
    exact (below2 hb).setCell (by simp) _ |>.setCell (by simp) _
  · have HO := Lib.hid ho
    by_cases h1 : r = 1
    · subst h1
      have e1 : areaR c cw ms len 1 = ⟨c, cw⟩ := by
        have : hasReg len 1 = true := by simp [hasReg]; omega
        simp [areaR, ho, this, areaOf]
      have e2 : areaB c ms len 1 = true := by
        have : hasReg len 1 = true := by simp [hasReg]; omega
        simp [areaB, ho, this]
      rw [e1, e2]
      clear e1 e2 ho hlen
      go_enter Tryd.func24, Tryd.ntmps24
      go_wp2_with (go_at_call 23; refine (rcheck_is _ _ _ _ _ ms _ ((HM.out.alloc _).alloc _) HO.out).mono ?_; rw [chk_true]; rintro e w1 ⟨rfl, hb⟩; obtain ⟨hc, hf⟩ := bcell hb; obtain ⟨hy, hz⟩ := two_in hb)
      refine bodyPost_ret (v := .tuple #[.agg #[.int .i64 c, .bool cw], .bool true]) (by simp [results, Tryd.results24, go_sem, hc]) rfl ⟨rfl, ?_⟩
      exact (below2 hb).setCell (by simp) _ |>.setCell (by simp) _
    · by_cases h2 : r = 2
      · subst h2
        have e1 : areaR c cw ms len 2 = ⟨512, true⟩ := by
          have : hasReg len 2 = true := by simp [hasReg]; omega
          simp [areaR, ho, this, areaOf]
        have e2 : areaB c ms len 2 = true := by
          have : hasReg len 2 = true := by simp [hasReg]; omega
          simp [areaB, ho, this]
        rw [e1, e2]
        clear e1 e2 ho hlen h1
        go_enter Tryd.func24, Tryd.ntmps24
        go_wp2_with (go_at_call 23; refine (rcheck_is _ _ _ _ _ ms _ ((HM.out.alloc _).alloc _) HO.out).mono ?_; rw [chk_true]; rintro e w1 ⟨rfl, hb⟩; obtain ⟨hc, hf⟩ := bcell hb; obtain ⟨hy, hz⟩ := two_in hb)
        refine bodyPost_ret (v := .tuple #[.agg #[.int .i64 512, .bool true], .bool true]) (by simp [results, Tryd.results24, go_sem, hc]) rfl ⟨rfl, ?_⟩
        exact (below2 hb).setCell (by simp) _ |>.setCell (by simp) _
      · by_cases h3 : 3 ≤ r
        · by_cases h4 : r < 3 + (len : Int)
          · have hR : hasReg len r = true := by simp [hasReg]; omega
            have e1 : areaR c cw ms len r = ms.getD (r - 3).toNat none_ := by simp [areaR, ho, hR, areaOf, h1, h2]
            have e2 : areaB c ms len r = true := by simp [areaB, ho, hR]
            rw [e1, e2]
            obtain ⟨k, hk⟩ : ∃ k : Nat, r = (k : Int) + 3 := ⟨(r - 3).toNat, by omega⟩
            subst hk
            have e3 : ((k : Int) + 3 - 3).toNat = k := by omega
            rw [e3]
            have hkl : k < len := by omega
            obtain ⟨b, off, rfl, hbl, c1, c2⟩ := HM.out.cells k (by omega)
            generalize ms.getD k none_ = v at c1 c2
            have HC1 := Lib.hid c1
            have HC2 := Lib.hid c2
            clear e1 e2 e3 ho hlen hR c1 c2
            go_enter Tryd.func24, Tryd.ntmps24
            go_wp2_with (go_at_call 23; refine (rcheck_is _ _ _ _ _ ms _ ((HM.out.alloc _).alloc _) HO.out).mono ?_; rw [chk_true]; rintro e w1 ⟨rfl, hb⟩; obtain ⟨hc, hf⟩ := bcell hb; obtain ⟨hy, hz⟩ := two_in hb; have d1 := ((below2 hb).cell (p := ⟨b, off + k * 2, none⟩) hbl).trans HC1.out; have d2 := ((below2 hb).cell (p := ⟨b, off + k * 2 + 1, none⟩) hbl).trans HC2.out; have hcz := hc w.heap.size; clear hbl)
            refine bodyPost_ret (v := .tuple #[.agg #[.int .i64 v.size, .bool v.write], .bool true]) (by simp [results, Tryd.results24, go_sem, hc]) rfl ⟨rfl, ?_⟩
            exact (below2 hb).setCell (by simp) _ |>.setCell (by simp) _
          · have hR : hasReg len r = false := by simp [hasReg]; omega
            have e1 : areaR c cw ms len r = none_ := by simp [areaR, hR]
            have e2 : areaB c ms len r = false := by simp [areaB, hR]
            rw [e1, e2]
            clear e1 e2 ho hlen hR
            go_enter Tryd.func24, Tryd.ntmps24
            go_wp2_with (go_at_call 23; refine (rcheck_is _ _ _ _ _ ms _ ((HM.out.alloc _).alloc _) HO.out).mono ?_; rw [chk_true]; rintro e w1 ⟨rfl, hb⟩; obtain ⟨hc, hf⟩ := bcell hb; obtain ⟨hy, hz⟩ := two_in hb)
            refine bodyPost_ret (v := .tuple #[.agg #[.int .i64 0, .bool false], .bool false]) (by simp [results, Tryd.results24, go_sem, hc]) rfl ⟨rfl, ?_⟩
            exact (below2 hb).setCell (by simp) _ |>.setCell (by simp) _
        · have hR : hasReg len r = false := by simp [hasReg]; omega
          have e1 : areaR c cw ms len r = none_ := by simp [areaR, hR]
          have e2 : areaB c ms len r = false := by simp [areaB, hR]
          rw [e1, e2]
          clear e1 e2 ho hlen hR
          go_enter Tryd.func24, Tryd.ntmps24
          go_wp2_with (go_at_call 23; refine (rcheck_is _ _ _ _ _ ms _ ((HM.out.alloc _).alloc _) HO.out).mono ?_; rw [chk_true]; rintro e w1 ⟨rfl, hb⟩; obtain ⟨hc, hf⟩ := bcell hb; obtain ⟨hy, hz⟩ := two_in hb)
          refine bodyPost_ret (v := .tuple #[.agg #[.int .i64 0, .bool false], .bool false]) (by simp [results, Tryd.results24, go_sem, hc]) rfl ⟨rfl, ?_⟩
          exact (below2 hb).setCell (by simp) _ |>.setCell (by simp) _
end Go.Proofs.YthckkdkijajadaaDoor

/- Contracts of the document's own answer: accesses, whose a memory is, and both asked. -/
namespace Go.Proofs.YthckkdkijajadaaDoor
open Go.RowKit M

theorem rarea_is {c : Int} {cw : Bool} {ms : List Ar} {len : Nat} {r : Int} {v : Ar} {b : Bool} (h : areaR c cw ms len r = v) (h' : areaB c ms len r = b) (q : Option Addr) (cap : Nat) (w : World) (hm : MapsAt w q len ms) :
    Calls Tryd.prog 24 #[.agg #[.int .i64 c, .bool cw, .slice q len cap], .int .i64 r] w fun e w' =>
      e = .returned (.tuple #[.agg #[.int .i64 v.size, .bool v.write], .bool b]) ∧ Below w.heap.size w w' := by
  rw [← h, ← h']; exact rarea_any c cw q len cap ms r w hm
set_option maxRecDepth 100000 in
set_option maxHeartbeats 1000000 in
theorem raccess_any (c : Int) (cw : Bool) (q : Option Addr) (len cap : Nat) (ms : List Ar) (a n : Int) (write : Bool) (w : World) (hm : MapsAt w q len ms) (ha : 0 ≤ a ∧ a < 18446744073709551616) :
    Calls Tryd.prog 37 #[.agg #[.int .i64 c, .bool cw, .slice q len cap], .int .u64 a, .int .i64 n, .bool write] w fun e w' =>
      e = .returned (.int .i64 (accN (findK c cw ms len a n write))) ∧ Below w.heap.size w w' := by
  have HM := Lib.hid hm
  have hbd := areaR_bd c cw ms len (regOf a) hm.hlen
  have HSP := Lib.hid (fun W => rsplit_any a W ha.1 ha.2)
  have ho : 0 ≤ offOf a ∧ offOf a < 4294967296 := by unfold offOf; omega
  have hrr : 0 ≤ regOf a ∧ regOf a < 4294967296 := by unfold regOf; omega
  have hB1 := Lib.hid ((Below.refl w.heap.size w).alloc (Nat.le_refl _) (.cells #[.int .i64 c, .bool cw, .slice q len cap] 27))
  by_cases h1 : n < 1
  · have e : accN (findK c cw ms len a n write) = 2 := by
      unfold findK; rw [if_pos (inB_false (by omega))]; rfl
    rw [e]
    clear hm hbd ho hrr e ha
    go_enter Tryd.func37, Tryd.ntmps37
    go_wp2
    go_ret
    exact ⟨rfl, hB1.out⟩
  · by_cases h2 : 4096 < n
    · have e : accN (findK c cw ms len a n write) = 2 := by
        unfold findK; rw [if_pos (inB_false (by omega))]; rfl
      rw [e]
      clear hm hbd ho hrr e ha
      go_enter Tryd.func37, Tryd.ntmps37
      go_wp2
      go_ret
      exact ⟨rfl, hB1.out⟩
    · have hin : inB n 1 = true := inB_true (by omega)
      have HAR := Lib.hid (fun W hm => rarea_any c cw q len cap ms (regOf a) W hm)
      have e0 : findK c cw ms len a n write = if areaB c ms len (regOf a) = false then 1 else if (areaR c cw ms len (regOf a)).size - n < offOf a then 1 else if write = true ∧ (areaR c cw ms len (regOf a)).write = false then 2 else 4 := by
        unfold findK; rw [hin, if_neg (by simp)]
      rw [e0]
      generalize areaR c cw ms len (regOf a) = v at *
      generalize areaB c ms len (regOf a) = b at *
      have hn2 : 1 ≤ n ∧ n ≤ 4096 := by omega
      clear hm e0 hin ha
      cases b
      · rw [if_pos rfl]
        have e : accN 1 = 20 := by decide
        rw [e]
        go_enter Tryd.func37, Tryd.ntmps37
        go_wp2_with (first
          | (go_at_call 43; refine (HSP.out _).mono ?_; rintro e w' ⟨rfl, rfl⟩)
          | (go_at_call 24; refine (HAR.out _ (HM.out.alloc _)).mono ?_; rintro e w1 ⟨rfl, hb⟩; obtain ⟨hc, hf⟩ := bcell hb; have hz := one_in hb))
        go_ret
        exact ⟨rfl, (below1 hb).alloc (Nat.le_of_lt hz) _⟩
      · rw [if_neg (by simp)]
        by_cases h3 : v.size - n < offOf a
        · rw [if_pos h3]
          have e : accN 1 = 20 := by decide
          rw [e]
          go_enter Tryd.func37, Tryd.ntmps37
          go_wp2_with (first
            | (go_at_call 43; refine (HSP.out _).mono ?_; rintro e w' ⟨rfl, rfl⟩)
            | (go_at_call 24; refine (HAR.out _ (HM.out.alloc _)).mono ?_; rintro e w1 ⟨rfl, hb⟩; obtain ⟨hc, hf⟩ := bcell hb; have hz := one_in hb))
          go_ret
          exact ⟨rfl, (below1 hb).alloc (Nat.le_of_lt hz) _⟩
        · rw [if_neg h3]
          have h3' : offOf a ≤ v.size - n := by omega
          cases write
          · have e : accN (if false = true ∧ v.write = false then 2 else 4) = 0 := by simp [accN]
            rw [e]
            go_enter Tryd.func37, Tryd.ntmps37
            go_wp2_with (first
              | (go_at_call 43; refine (HSP.out _).mono ?_; rintro e w' ⟨rfl, rfl⟩)
              | (go_at_call 24; refine (HAR.out _ (HM.out.alloc _)).mono ?_; rintro e w1 ⟨rfl, hb⟩; obtain ⟨hc, hf⟩ := bcell hb; have hz := one_in hb))
            go_ret
            exact ⟨rfl, (below1 hb).alloc (Nat.le_of_lt hz) _⟩
          · cases hvw : v.write
            · have e : accN (if true = true ∧ false = false then 2 else 4) = 21 := by decide
              rw [e]
              have HVW := Lib.hid hvw
              rw [hvw] at HAR
              clear hvw
              go_enter Tryd.func37, Tryd.ntmps37
              go_wp2_with (first
                | (go_at_call 43; refine (HSP.out _).mono ?_; rintro e w' ⟨rfl, rfl⟩)
                | (go_at_call 24; refine (HAR.out _ (HM.out.alloc _)).mono ?_; rintro e w1 ⟨rfl, hb⟩; obtain ⟨hc, hf⟩ := bcell hb; have hz := one_in hb))
              go_ret
              exact ⟨rfl, (below1 hb).alloc (Nat.le_of_lt hz) _⟩
            · have e : accN (if true = true ∧ true = false then 2 else 4) = 0 := by decide
              rw [e]
              rw [hvw] at HAR
              clear hvw
              go_enter Tryd.func37, Tryd.ntmps37
              go_wp2_with (first
                | (go_at_call 43; refine (HSP.out _).mono ?_; rintro e w' ⟨rfl, rfl⟩)
                | (go_at_call 24; refine (HAR.out _ (HM.out.alloc _)).mono ?_; rintro e w1 ⟨rfl, hb⟩; obtain ⟨hc, hf⟩ := bcell hb; have hz := one_in hb))
              go_ret
              exact ⟨rfl, (below1 hb).alloc (Nat.le_of_lt hz) _⟩
end Go.Proofs.YthckkdkijajadaaDoor

/- Contract of the document's own answer: whose a memory is. -/
namespace Go.Proofs.YthckkdkijajadaaDoor
open Go.RowKit M

theorem rarea_sz {c : Int} {cw : Bool} {ms : List Ar} {i : Nat} (q : Option Addr) (len cap : Nat) (w : World) (hm : MapsAt w q len ms) (ho : okL c ms = true) (hi : i < len + 2) :
    Calls Tryd.prog 24 #[.agg #[.int .i64 c, .bool cw, .slice q len cap], .int .i64 ((i : Int) + 1)] w fun e w' =>
      (∃ b, e = .returned (.tuple #[.agg #[.int .i64 (szOf c ms i), .bool b], .bool true])) ∧ Below w.heap.size w w' := by
  have h1 : areaR c cw ms len ((i : Int) + 1) = areaOf c cw ms ((i : Int) + 1) := by simp [areaR, ho, hasReg_in hi]
  have h2 : areaB c ms len ((i : Int) + 1) = true := by simp [areaB, ho, hasReg_in hi]
  have h := rarea_any c cw q len cap ms ((i : Int) + 1) w hm
  rw [h1, h2, szOf_eq] at h
  exact h.mono fun e w' ⟨h1, h2⟩ => ⟨⟨_, h1⟩, h2⟩
set_option maxRecDepth 100000 in
set_option maxHeartbeats 1000000 in
theorem rmay_any (s : Nat → Addr) (c : Int) (cw : Bool) (q : Option Addr) (len cap : Nat) (ms : List Ar) (mp : Option Addr) (mc : Nat) (Q : Nat → Option Addr) (C : Nat → Nat) (M : List (List Int)) (w : World) (hs : Sent w s) (hm : MapsAt w q len ms) (hM : MemAt w mp Q C M) :
    Calls Tryd.prog 38 #[.agg #[.int .i64 c, .bool cw, .slice q len cap], .slice mp M.length mc] w fun e w' =>
      e = .returned (.bool (mayB c ms len M)) ∧ Below w.heap.size w w' := by
  have H0 := Lib.hid (LawW.first (c := c) (cw := cw) (cap := cap) hs hm)
  have HMM := Lib.hid hM
  have hlen := hm.hlen
  have hls := hm.small
  have hsm := hM.small
  have HCK := Lib.hid (fun W hm => rcheck_any c cw q len cap ms W hm)
  obtain ⟨K, hK⟩ : ∃ K, M.length = K := ⟨_, rfl⟩
  rw [hK] at hsm ⊢
  cases ho : okL c ms
  · have HR : mayB c ms len M = false := by simp [mayB, ho]
    rw [HR]
    rw [ho, chk_false] at HCK
    clear HR ho hK hlen hs hm hM
    go_enter Tryd.func38, Tryd.ntmps38
    go_wp2_with (go_at_call 23; refine (HCK.out _ H0.out.maps).mono ?_; rintro e w1 ⟨rfl, hb⟩; have H1 := Lib.hid (H0.out.next hb); clear hb)
    go_ret
    exact ⟨rfl, H1.out.below⟩
  · rw [ho, chk_true] at HCK
    have hl8 : len ≤ 8 := by have := (okL_parts ho).2.1; omega
    have HO := Lib.hid ho
    by_cases hKL : K = len + 2
    · have HSB := Lib.hid (fun i hi => szOf_bd (i := i) hlen HO.out hi)
      have hkl : K ≤ len + 2 := by omega
      have hkl2 : len + 2 ≤ K := by omega
      have hk1 : ((K : Int) != 2 + (len : Int)) = false := by simp; omega
      have HKL := Lib.hid hKL
      have HKK := Lib.hid hK
      clear hKL hK ho hlen hs hm hM
      go_enter Tryd.func38, Tryd.ntmps38
      go_wp2_with (go_at_call 23; refine (HCK.out _ H0.out.maps).mono ?_; rintro e w1 ⟨rfl, hb⟩; have H1 := Lib.hid (H0.out.next hb); have k0 := H1.out.b0; have k1 := H1.out.b1; have k2 := H1.out.b2; clear hb)
      clear k0 k1 k2
      go_loopw [5] (fun i wr => ∃ k : Nat, k ≤ K ∧ i = .int .i64 k ∧ Hid (∀ i, i < k → ((M.getD i []).length : Int) = szOf c ms i) ∧ Hid (LawW s w wr c cw q len cap ms)) (fun i _ => K - (intOf i).toNat)
      case atStart => exact ⟨0, Nat.zero_le _, rfl, (fun i hi => absurd hi (Nat.not_lt_zero _)), H1.out⟩
      case round =>
        obtain ⟨k, hk, rfl, HE, HW⟩ := hrel
        by_cases hlt : k < K
        · have hkl3 : k < len + 2 := by omega
          obtain ⟨b, off, rfl, hbl, g1, _, _⟩ := HMM.out.cells k (by rw [HKK.out]; omega)
          have hkb := HMM.out.rsmall k
          obtain ⟨L, hL⟩ : ∃ L, (M.getD k []).length = L := ⟨_, rfl⟩
          rw [hL] at g1 hkb
          have HAR := Lib.hid (fun W hm => rarea_sz (c := c) (cw := cw) (ms := ms) q len cap W hm HO.out hkl3)
          obtain ⟨z, hz'⟩ : ∃ z, szOf c ms k = z := ⟨_, rfl⟩
          rw [hz'] at HAR
          have HL := Lib.hid hL
          have HZ := Lib.hid hz'
          have HG1 := Lib.hid g1
          have k0 := HW.out.b0
          have k1 := HW.out.b1
          have k2 := HW.out.b2
          clear hL hz' g1
          go_wp2_with fail
          refine (HAR.out _ HW.out.maps).mono ?_
          rintro e w3 ⟨⟨bb, rfl⟩, hb⟩
          have H3 := Lib.hid (fun o => (HW.out.next hb).alloc o)
          have d1 : ∀ o, (w3.alloc o).cell? ⟨b, off + k, none⟩ = some (.slice (Q k) L (C k)) := fun o => ((H3.out o).below.cell (p := ⟨b, off + k, none⟩) hbl).trans HG1.out
          clear hb k0 k1 k2
          go_wp2_with fail
          by_cases heq : (L : Int) = z
          · have t1 : ((L : Int) != z) = false := by simp [heq]
            have HEQ := Lib.hid heq
            clear heq
            go_region
            all_goals
              go_wp2
              go_roundw
              case rel =>
                refine ⟨k + 1, by omega, by go_num, (fun i hi => ?_), (H3.out _).drew⟩
                by_cases h : i < k
                · exact HE.out i h
                · have : i = k := by omega
                  subst this
                  rw [HL.out, HZ.out]; exact HEQ.out
              case measure => simp [intOf]; omega
          · have t1 : ((L : Int) != z) = true := by simp [heq]
            have HEQ := Lib.hid heq
            clear heq
            go_region
            all_goals
              go_wp2
              go_ret
              exact ⟨ret_bool (mayB_no k hkl3 (by rw [HL.out, HZ.out]; exact HEQ.out)).symm, (H3.out _).drew.below⟩
        · go_wp2
          go_ret
          refine ⟨ret_bool ?_, HW.out.below⟩
          have : len + 2 ≤ k := by omega
          simp only [mayB, HO.out, Bool.true_and]
          exact (decide_eq_true ⟨by rw [HKK.out]; exact HKL.out, fun i hi => HE.out i (by omega)⟩).symm
    · have HR : mayB c ms len M = false := by
        simp only [mayB, Bool.and_eq_false_iff, decide_eq_false_iff_not]
        exact .inr fun h' => hKL (hK ▸ h'.1)
      rw [HR]
      have t1 : ((K : Int) != 2 + (len : Int)) = true := by simp; omega
      clear hKL hK ho hlen HR hs hm hM
      go_enter Tryd.func38, Tryd.ntmps38
      go_wp2_with (go_at_call 23; refine (HCK.out _ H0.out.maps).mono ?_; rintro e w1 ⟨rfl, hb⟩; have H1 := Lib.hid (H0.out.next hb); have k0 := H1.out.b0; have k1 := H1.out.b1; have k2 := H1.out.b2; clear hb)
      go_ret
      exact ⟨rfl, H1.out.below⟩
end Go.Proofs.YthckkdkijajadaaDoor
