/- Contracts of the document's own answer: what a memory is behind a fill and a store. -/
import Derived.Test.YtgchdiocbllppaaDoorRL
namespace Go.Proofs.YtgchdiocbllppaaDoor
open Go.RowKit M

/-- a copy into which the first k bytes are laid -/
structure FillSt (w w2 wr : World) (B C : Nat → Nat) (M : List (List Int)) (K r o : Nat) (bs : List Int) (g k : Nat) : Prop where
  below : Below w.heap.size w wr
  blk : wr.heap[g]? = w2.heap[g]?
  cop : Copies w.heap.size wr B C (fillM M r o (bs.take k)) K
theorem Copies.mono {base base2 : Nat} {w : World} {B C : Nat → Nat} {M : List (List Int)} {k : Nat} (h : Copies base w B C M k) (hb : base2 ≤ base) : Copies base2 w B C M k :=
  ⟨h.blk, h.cap, fun i hi => Nat.le_trans hb (h.ge i hi), h.inj⟩
theorem FillSt.next {w w2 wr : World} {B C : Nat → Nat} {M : List (List Int)} {K r o : Nat} {bs : List Int} {g k : Nat} {y : Int} (h : FillSt w w2 wr B C M K r o bs g k) (hK : M.length = K) (hr : r < K) (hfit : o + bs.length ≤ (M.getD r []).length) (hk : k < bs.length) (hy : bs.getD k 0 = y) (hg : g ≠ B r) :
    FillSt w w2 (wr.setCell ⟨B r, o + k, none⟩ (.int .u8 y)) B C M K r o bs g (k + 1) := by
  subst hy
  refine ⟨h.below.setCell (p := ⟨B r, o + k, none⟩) (h.cop.ge r hr) _, (heap_setCell_other _ _ _ _ hg).trans h.blk, ?_⟩
  rw [fillM_snoc (by omega) hfit hk]
  exact h.cop.setAt (by rw [fillM_length]; exact hK) hr
theorem FillSt.drew {w w2 wr : World} {B C : Nat → Nat} {M : List (List Int)} {K r o : Nat} {bs : List Int} {g k : Nat} (h : FillSt w w2 wr B C M K r o bs g k) : FillSt w w2 wr.drew B C M K r o bs g k :=
  ⟨h.below.drew, h.blk, h.cop.to (fun _ _ => rfl)⟩

set_option maxRecDepth 100000 in
set_option maxHeartbeats 1000000 in
theorem rfill_bad (s : Nat → Addr) (c : Int) (cw : Bool) (q : Option Addr) (len cap : Nat) (ms : List Ar) (mp : Option Addr) (mc : Nat) (Q : Nat → Option Addr) (C : Nat → Nat) (M : List (List Int)) (a : Int) (bq : Option Addr) (bn bc : Nat) (w : World) (hs : Sent w s) (hm : MapsAt w q len ms) (hM : MemAt w mp Q C M) (_ : bn ≤ 140737488351232) (ha : 0 ≤ a ∧ a < 18446744073709551616) (k : Nat) (hk : rdK c cw ms len M a bn true = k) (hk4 : k < 4) :
    Calls Tryd.prog 34 #[.agg #[.int .i64 c, .bool cw, .slice q len cap], .slice mp M.length mc, .int .u64 a, .slice bq bn bc] w (MemPost [] (numOf k) w) := by
  have H0 := Lib.hid (LawW.first (c := c) (cw := cw) (cap := cap) hs hm)
  have HM0 := Lib.hid (hM.alloc (.cells #[.int .i64 c, .bool cw, .slice q len cap] 26))
  have HASK := Lib.hid (fun W hs hm hM => asked_any s c cw q len cap ms mp mc Q C M a bn true W hs hm hM ha)
  rw [hk, accN_lt hk4] at HASK
  have hne : (numOf k != 0) = true := by
    have : numOf k ≠ 0 := by unfold numOf; (repeat' split) <;> omega
    simpa using this
  obtain ⟨K, hK⟩ : ∃ K, M.length = K := ⟨_, rfl⟩
  rw [hK] at HASK ⊢
  generalize numOf k = E at *
  clear hs hm hM hK hk ha
  go_enter Tryd.func34, Tryd.ntmps34
  go_wp2_with (go_at_call 48; refine (HASK.out _ H0.out.sent H0.out.maps HM0.out).mono ?_; rintro e w1 ⟨rfl, hb⟩; have H1 := Lib.hid (H0.out.next hb); clear hb)
  go_ret2
  exact MemPost.none H1.out.below
set_option maxRecDepth 100000 in
set_option maxHeartbeats 2000000 in
theorem rfill_ok (s : Nat → Addr) (c : Int) (cw : Bool) (q : Option Addr) (len cap : Nat) (ms : List Ar) (mp : Option Addr) (mc : Nat) (Q : Nat → Option Addr) (C : Nat → Nat) (M : List (List Int)) (a : Int) (bq : Option Addr) (bs : List Int) (bc : Nat) (w : World) (hs : Sent w s) (hm : MapsAt w q len ms) (hM : MemAt w mp Q C M) (hbs : RowAt w bq bs) (ha : 0 ≤ a ∧ a < 18446744073709551616) (hk : rdK c cw ms len M a bs.length true = 4) :
    Calls Tryd.prog 34 #[.agg #[.int .i64 c, .bool cw, .slice q len cap], .slice mp M.length mc, .int .u64 a, .slice bq bs.length bc] w (MemPost (fillM M (regOf a - 1).toNat (offOf a).toNat bs) 0 w) := by
  obtain ⟨r, o, nn, hr, ho, hn, hn1, hn2, hrM, hfit, hL⟩ := granted hm.hlen (rdK_ok hk).1 (rdK_ok hk).2
  have hnn : bs.length = nn := by omega
  have hM10 : M.length ≤ 10 := by have := mayB_true (rdK_ok hk).1; have h8 := (okL_parts this.1).2.1; have := hm.hlen; omega
  have HR : regOf a = (r : Int) + 1 := by omega
  have H0 := Lib.hid (LawW.first (c := c) (cw := cw) (cap := cap) hs hm)
  have HM0 := Lib.hid (hM.alloc (.cells #[.int .i64 c, .bool cw, .slice q len cap] 26))
  have HBW := Lib.hid hbs
  have HB0 := Lib.hid (hbs.alloc (.cells #[.int .i64 c, .bool cw, .slice q len cap] 26))
  have HASK := Lib.hid (fun W hs hm hM => asked_any s c cw q len cap ms mp mc Q C M a bs.length true W hs hm hM ha)
  rw [hk, accN_4] at HASK
  have HSP := Lib.hid (fun W => rsplit_any a W ha.1 ha.2)
  rw [HR, ho] at HSP
  have HCP := Lib.hid (fun W hM => copy_any mp mc Q C M W hM (by omega))
  unfold CopyPost at HCP
  have e1 : (regOf a - 1).toNat = r := by omega
  have e2 : (offOf a).toNat = o := by omega
  rw [e1, e2]
  have HEND : Hid (∀ (W W2 : World) (B C2 : Nat → Nat) (g gc : Nat), W2.ownsRow w.heap.size 36 1 (.slice (some ⟨g, 0, none⟩) M.length gc) M.length ((List.range M.length).map (rowC B C2 M)) → FillSt w W2 W B C2 M M.length r o bs g nn → MemPost (fillM M r o bs) 0 w (.returned (.tuple #[.slice (some ⟨g, 0, none⟩) M.length gc, .int .i64 0])) W) := by
    intro W W2 B C2 g gc ho2 hst
    have hc := hst.cop
    rw [show bs.take nn = bs by rw [← hnn]; simp] at hc
    have ho3 := ownsRow_of_block ho2 hst.blk
    have hl : (fillM M r o bs).length = M.length := fillM_length _ _ _ _
    obtain ⟨mp', mc', hv, hmem⟩ := copies_mem (M2 := M) (by rw [hl]; exact hM.small) (fun i => by rw [fillM_len hrM (by rw [hnn]; exact hfit)]; exact hM.rsmall i) (fillM_byte hrM (by rw [hnn]; exact hfit) hM.byte hbs.byte) ⟨hl.symm, fun i => (fillM_len hrM (by rw [hnn]; exact hfit) i).symm⟩ (by rw [hl]; exact ho3) (by rw [hl]; exact hc)
    exact ⟨mp', mc', _, C2, by rw [hv], hst.below, hmem⟩
  obtain ⟨K, hK⟩ : ∃ K, M.length = K := ⟨_, rfl⟩
  have HKK := Lib.hid hK
  rw [hK] at HASK HCP HEND hrM hM10 ⊢
  rw [hnn] at HASK ⊢
  have HFITB : Hid (o + bs.length ≤ (M.getD r []).length) := by show _ ≤ _; rw [hnn]; exact hfit
  have HNN := Lib.hid hnn
  obtain ⟨L, hLL⟩ : ∃ L, (M.getD r []).length = L := ⟨_, rfl⟩
  rw [hLL] at hfit hL
  have HLL := Lib.hid hLL
  clear hs hm hM hbs ha hk hr ho hn hnn HR e1 e2 hK hLL
  go_enter Tryd.func34, Tryd.ntmps34
  go_wp2_with (first
    | (go_at_call 48; refine (HASK.out _ H0.out.sent H0.out.maps HM0.out).mono ?_; rintro e w1 ⟨rfl, hb⟩; have H1 := Lib.hid (H0.out.next hb); have HM1 := Lib.hid (HM0.out.below hb); have HB1 := Lib.hid (HB0.out.below hb); clear hb)
    | (go_at_call 22; refine (HSP.out _).mono ?_; rintro e w' ⟨rfl, rfl⟩)
    | (go_at_call 30; refine (HCP.out _ HM1.out).mono ?_; rintro e w2 ⟨v, B, C2, rfl, hb, hown, hcop⟩; obtain ⟨g, gc, cur, rfl, hge, hgl, hgc, hgc2, hgh, hcells⟩ := owns_cells hown (by omega); have H2 := Lib.hid (H1.out.next hb); have HB2 := Lib.hid (HB1.out.below hb); have HOWN := Lib.hid hown; have HCOP := Lib.hid (hcop.mono H1.out.below.size); have HCUR := Lib.hid hgh; have HCELL := Lib.hid (hcells r _ hrM (by simp [hrM]; rfl)); clear hb hown hcop hge hgh hcells))
  have HOW2 := Lib.hid (show w2.ownsRow w.heap.size 36 1 (.slice (some ⟨g, 0, none⟩) K gc) K ((List.range K).map (rowC B C2 M)) from by
    obtain ⟨x1, x2 | ⟨g', cap', cur', y1, y2, y3⟩⟩ := HOWN.out
    · exact ⟨x1, .inl x2⟩
    · exact ⟨x1, .inr ⟨g', cap', cur', y1, Nat.le_trans H1.out.below.size y2, y3⟩⟩)
  go_loopw [14] (fun i wr => ∃ k : Nat, k ≤ nn ∧ i = .int .i64 k ∧ Hid (FillSt w w2 wr B C2 M K r o bs g k)) (fun i _ => nn - (intOf i).toNat)
  case atStart => exact ⟨0, Nat.zero_le _, rfl, H2.out.below, rfl, by rw [List.take_zero, fillM_zero]; exact HCOP.out⟩
  case round =>
    obtain ⟨k, hk, rfl, HST⟩ := hrel
    by_cases hlt : k < nn
    · obtain ⟨bb, boff, rfl, hbl, gb⟩ := (HBW.out.below HST.out.below).cells k (by rw [HNN.out]; exact hlt)
      have hby := HBW.out.byte k (by rw [HNN.out]; exact hlt)
      obtain ⟨y, hy⟩ : ∃ y, bs.getD k 0 = y := ⟨_, rfl⟩
      rw [hy] at gb hby
      have gg : wr.cell? ⟨g, r, none⟩ = some (.slice (some ⟨B r, 0, none⟩) L (C2 r)) := by
        have := HCELL.out
        simp only [World.cell?] at this ⊢
        rw [HST.out.blk, this, rowC, HLL.out]
      have HNE := Lib.hid (blk_ne (HST.out.blk.trans HCUR.out) (HST.out.cop.blk r hrM))
      have hlen2 : ((fillM M r o (bs.take k)).getD r []).length = L := by
        rw [fillM_len (by rw [HKK.out]; exact hrM) (Nat.le_trans (Nat.add_le_add_left (List.length_take_le' _ _) _) HFITB.out), HLL.out]
      have gt := (HST.out.cop.blk r hrM).cell (j := o + k) (by rw [hlen2]; omega)
      have gf := (HST.out.cop.blk r hrM).frozen (j := o + k)
      obtain ⟨z, hz⟩ : ∃ z, ((fillM M r o (bs.take k)).getD r []).getD (o + k) 0 = z := ⟨_, rfl⟩
      rw [hz] at gt
      have HNX := Lib.hid (fun W (h : FillSt w w2 W B C2 M K r o bs g k) => FillSt.next (y := y) h HKK.out hrM HFITB.out (by rw [HNN.out]; exact hlt) hy HNE.out)
      generalize C2 r = Cr at gg
      obtain ⟨Br, hBr⟩ : ∃ Br, B r = Br := ⟨_, rfl⟩
      rw [hBr] at gg gt gf HNX
      clear hy hz hBr hlen2
      have wsum : IntKind.i64.wrap ((o : Int) + k) = (o : Int) + k := IntWalk.i64_in _ (by omega)
      have wsum0 : 0 ≤ (o : Int) + k := by omega
      have wsum2 : ((o : Int) + k).toNat = o + k := by omega
      have wr1 : IntKind.i64.wrap ((r : Int) + 1 - 1) = r := by rw [show (r : Int) + 1 - 1 = r by omega]; exact IntWalk.i64_in _ (by omega)
      have wr2 : IntKind.i64.wrap (r : Int) = r := IntWalk.i64_in _ (by omega)
      go_wp2_with fail
      go_region
      all_goals
        go_wp2
        go_roundw
        case rel => exact ⟨k + 1, by omega, by go_num, HNX.out _ HST.out.drew⟩
        case measure => simp [intOf]; omega
    · have hkn : k = nn := by omega
      subst hkn
      go_wp2
      go_ret2
      exact HEND.out _ _ _ _ _ _ HOW2.out HST.out
end Go.Proofs.YtgchdiocbllppaaDoor
