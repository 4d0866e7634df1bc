/- Contracts of write and Encode: which bytes instructions are, or why none. -/
import Derived.Test.YtlcmaokafklheaaDoorWS
import Derived.Test.YtlcmaokafklheaaDoorP4
namespace Go.Proofs.YtlcmaokafklheaaDoor
open Go.RowKit M

/-- what write answers -/
def WritePost (l : List In) (w : World) (e : Ending) (w' : World) : Prop :=
  (allE l = true ∧ ∃ g cap, e = .returned (.tuple #[.slice (some ⟨g, 0, none⟩) (l.length * 8) cap, .nilIface]) ∧ Below w.heap.size w w' ∧ RowAt w' (some ⟨g, 0, none⟩) (encTo l l.length) ∧ l.length * 8 ≤ cap) ∨
  (allE l = false ∧ ∃ m : Int, e = .returned (.tuple #[.slice none 0 0, .iface 67 (.agg #[.int .i64 2, .int .i64 m])]) ∧ Below w.heap.size w w')
theorem write_bad (p : Option Addr) (c N : Nat) (w : World) (hN : N ≤ 140737488351232) (h : N < 1 ∨ 4096 < N) :
    Calls Tryd.prog 24 #[.slice p N c] w fun e w' => e = .returned (.tuple #[.slice none 0 0, .iface 67 (.agg #[.int .i64 2, .int .i64 0])]) ∧ w = w' := by
  by_cases h0 : N < 1
  · have hN0 : N = 0 := by omega
    subst hN0
    clear h h0 hN
    go_enter Tryd.func24, Tryd.ntmps24
    go_wp2
    go_ret2
    exact ⟨rfl, rfl⟩
  · have h1 : 4096 < N := by omega
    have h2 : 1 ≤ N := by omega
    clear h h0
    go_enter Tryd.func24, Tryd.ntmps24
    go_wp2
    go_ret2
    exact ⟨rfl, rfl⟩
theorem encTo_snoc (l : List In) (k : Nat) : encTo l (k + 1) = encTo l k ++ bytesE l k := by simp [encTo, List.range_succ]
theorem encTo_length (l : List In) (k : Nat) : (encTo l k).length = k * 8 := flat_length (bytesE_length l) k
theorem bytesV_app (a b : List Int) : bytesV (a ++ b) = bytesV a ++ bytesV b := by simp [bytesV]
theorem encTo_by (l : List In) (k : Nat) : ∀ j, j < (encTo l k).length → 0 ≤ (encTo l k).getD j 0 ∧ (encTo l k).getD j 0 < 256 := fun j hj => by
  rw [encTo_length] at hj
  rw [show j = j / 8 * 8 + j % 8 by omega]
  unfold encTo
  rw [flat_getD (bytesE_length l) (by omega) (by omega)]
  unfold bytesE
  rw [putL_getD _ (by omega)]
  exact putB_bd _ _
theorem row_own {w : World} {base n : Nat} {v : Value} {xs : List Int} (hn : 0 < n) (hl : xs.length = n) (hs : n ≤ 140737488351232) (hb : ∀ j, j < xs.length → 0 ≤ xs.getD j 0 ∧ xs.getD j 0 < 256) (h : w.ownsRow base 5 1 v n (bytesV xs)) :
    ∃ g cap, v = .slice (some ⟨g, 0, none⟩) n cap ∧ RowAt w (some ⟨g, 0, none⟩) xs ∧ n ≤ cap := by
  obtain ⟨g, cap, cur, hv, _, hg, hc, _, _, hcell⟩ := owns_cells h hn
  refine ⟨g, cap, hv, ⟨by omega, fun j hj => ⟨g, 0, rfl, hg, ?_⟩, hb⟩, hc⟩
  rw [Nat.zero_add]
  exact hcell j _ (by omega) (by simp [bytesV, hj])
theorem src0 {w : World} {g : Nat} {xs : List Int} (h : RowAt w (some ⟨g, 0, none⟩) xs) : ∀ j u, (bytesV xs)[j]? = some u → w.cell? ((⟨g, 0, none⟩ : Addr).add j) = some u := by
  intro j u hu
  have hj : j < xs.length := by
    have := (List.getElem?_eq_some_iff.1 hu).1
    rwa [bytesV_length] at this
  obtain ⟨ad, e, hc⟩ := h.src (by omega)
  injection e with e
  subst e
  exact hc j u hu
theorem pack_v (x : In) (hx : BdF x) (w : World) (hr : RowsAt w) :
    Calls Tryd.prog 37 #[.agg #[.int .i64 x.op, .int .i64 x.dst, .int .i64 x.src, .int .i64 x.off, .int .i64 x.imm]] w (PutPost (pk x) 8 w) := pack_any x hx w hr
theorem fieldsE_bd {l : List In} (hb : ∀ i, i < l.length → Bd (l.getD i z)) {k : Nat} (hk : k < l.length) : BdF (fieldsE l k) := by
  unfold fieldsE
  split
  · unfold restI sg32
    exact ⟨by dsimp only; omega, by dsimp only; omega, by dsimp only; omega, by dsimp only; omega, by dsimp only; omega⟩
  · exact bdF (hb k hk)
set_option maxRecDepth 100000 in
set_option maxHeartbeats 4000000 in
theorem write_any (p : Option Addr) (c : Nat) (l : List In) (w : World) (h : InsAt w p l) (hr : RowsAt w) (h1 : 1 ≤ l.length) (h2 : l.length ≤ 4096) :
    Calls Tryd.prog 24 #[.slice p l.length c] w (WritePost l w) := by
  have HS := Lib.hid (fun k W hW hR hk => slot_any p c k l W hW hR hk)
  unfold fV at HS
  have H := Lib.hid h
  have HR := Lib.hid hr
  have HBF := Lib.hid (fun k (hk : k < l.length) => fieldsE_bd h.bd hk)
  obtain ⟨L, hL⟩ : ∃ L, l.length = L := ⟨_, rfl⟩
  obtain ⟨i5, h5, g5, s5, b5⟩ := info_parts info5
  have H5 := Lib.hid h5
  have G5 := Lib.hid g5
  have S5 := Lib.hid s5
  have B5 := Lib.hid b5
  rw [hL] at HS HBF h1 h2 ⊢
  have HL := Lib.hid hL
  clear hL h hr h5 g5 s5 b5
  go_enter Tryd.func24, Tryd.ntmps24
  go_wp2
  go_loopw [4, 20] (fun v i wr => ∃ k : Nat, k ≤ L ∧ i = .int .i64 k ∧ Below w.heap.size w wr ∧ wr.ownsRow w.heap.size 5 1 v (k * 8) (bytesV (encTo l k)) ∧ Hid (∀ j, j < k → okE l j = true)) (fun _ i _ => L - (intOf i).toNat)
  case atStart => exact ⟨0, Nat.zero_le _, rfl, Below.refl _ _, ⟨rfl, .inl ⟨rfl, rfl⟩⟩, Lib.hid (fun j hj => absurd hj (Nat.not_lt_zero _))⟩
  case round =>
    obtain ⟨k, hk, rfl, hb, hown, hnb⟩ := hrel
    have HB := Lib.hid hb
    have HO := Lib.hid hown
    clear hb hown
    by_cases hlt : k < L
    · have HSK := Lib.hid (HS.out k)
      have HP := Lib.hid (fun W hW => pack_v (fieldsE l k) (HBF.out k hlt) W hW)
      have HE := Lib.hid (encTo_snoc l k)
      unfold PutPost at HP
      unfold bytesE at HE
      obtain ⟨Bs, hBs⟩ : ∃ Bs, putL (pk (fieldsE l k)) 8 = Bs := ⟨_, rfl⟩
      have hB8 : Bs.length = 8 := by rw [← hBs]; exact putL_length _ 8
      rw [hBs] at HP HE
      rw [hB8] at HP
      have HB8 := Lib.hid hB8
      clear hB8 hBs
      generalize fieldsE l k = F at *
      cases hok : okE l k
      · rw [hok] at HSK
        have HOK := Lib.hid hok
        clear hok
        go_wp2_with (go_at_call 36; refine (HSK.out _ (H.out.below HB.out) (HR.out.below HB.out) hlt).mono ?_; rintro e w3 ⟨rfl, hb3⟩; have HB3 := Lib.hid (below_next HB.out hb3); clear hb3)
        go_ret2
        exact .inr ⟨allE_false (by rw [HL.out]; exact hlt) HOK.out, (k : Int), rfl, HB3.out.alloc HB3.out.size _⟩
      · rw [hok] at HSK
        have HOK := Lib.hid hok
        clear hok
        go_wp2_with (first
          | (go_at_call 36; refine (HSK.out _ (H.out.below HB.out) (HR.out.below HB.out) hlt).mono ?_; rintro e w3 ⟨rfl, hb3⟩; have HB3 := Lib.hid (below_next HB.out hb3); have HO3 := Lib.hid (own_below HO.out hb3); clear hb3)
          | (go_at_call 37; refine (HP.out _ ((HR.out.below HB3.out).alloc _)).mono ?_; rintro e w4 ⟨g, cap, rfl, hb4, hrow⟩; have HB4 := Lib.hid (below_next HB3.out (below1 hb4)); have HO4 := Lib.hid (own_below (HO3.out.alloc _) hb4); have HROW := Lib.hid hrow; clear hb4 hrow)
          | (at_builtin; refine wpList_append_own _ rfl (.tmp 34) (.tmp 36) 22 rfl w.heap.size 5 i5 _ 1 1 Tryd.underlying22 H5.out G5.out S5.out B5.out rfl (by decide) _ _ _ rfl HO4.out ⟨g, 0, none⟩ 8 cap (bytesV Bs) rfl ?c1 ?c2 (bytesV_one Bs) ?c3 ?c4 ?c5 ?_))
        case c1 => rw [bytesV_length, HB8.out]
        case c2 => exact src0 HROW.out
        case c3 => simp only [maxLen]; omega
        case c4 => omega
        case c5 => exact HB4.out.size
        intro v' w5 hown' hg _
        have hb5 := HB4.out.grown hg HB4.out.size (own_ge HO4.out)
        have HB5 := Lib.hid hb5
        have HO5 := Lib.hid hown'
        clear hown' hg hb5
        go_wp2
        go_roundw
        case rel =>
          refine ⟨k + 1, by omega, by go_num, HB5.out, ?_, Lib.hid (fun j hj => ?_)⟩
          · rw [HE.out, bytesV_app, show (k + 1) * 8 = k * 8 + 8 by omega]
            exact HO5.out
          · by_cases e : j = k
            · subst e; exact HOK.out
            · exact hnb.out j (by omega)
        case measure => simp [intOf]; omega
    · have hkL : k = L := by omega
      subst hkL
      go_wp2
      go_ret2
      obtain ⟨g, cap, hv, hrow, hc⟩ := row_own (by omega) (encTo_length l k) (by omega) (encTo_by l k) HO.out
      exact .inl ⟨allE_true.2 (by rw [HL.out]; exact hnb.out), g, cap, by rw [hv, HL.out]; rfl, HB.out, by rw [HL.out]; exact hrow, by rw [HL.out]; exact hc⟩
/-- what Encode answers -/
def EncR (l : List In) (w : World) (e : Ending) (w' : World) : Prop :=
  ∃ p cap, e = .returned (.tuple #[.slice p (encS l).1.length cap, .int .i64 (encS l).2]) ∧ RowAt w' p (encS l).1 ∧ (encS l).1.length ≤ cap ∧ Below w.heap.size w w'
theorem encode_any (p : Option Addr) (c : Nat) (l : List In) (w : World) (h : InsAt w p l) (hE : Env w) :
    Calls Tryd.prog 13 #[.slice p l.length c] w (EncR l w) := by
  have HG := Lib.hid hE.err
  by_cases hn : l.length < 1 ∨ 4096 < l.length
  · have hd : encS l = ([], 2) := by unfold encS; rw [if_pos hn]
    unfold EncR
    rw [hd]
    have HC := Lib.hid (fun W => write_bad p c l.length W h.small hn)
    generalize l.length = N at *
    clear h hE hn hd
    go_enter Tryd.func13, Tryd.ntmps13
    go_wp2_with (first
      | (go_at_call 24; refine (HC.out _).mono ?_; rintro e w1 ⟨rfl, rfl⟩)
      | (go_at_call 21; refine (number_is _ _ _ HG.out).mono ?_; rintro e w1 ⟨rfl, hb1⟩; have HB1 := Lib.hid hb1; clear hb1))
    go_ret2
    exact ⟨none, 0, rfl, RowAt.nil _ _, Nat.le_refl _, HB1.out⟩
  · have HC := Lib.hid (write_any p c l w h hE.rows (by omega) (by omega))
    have HD := Lib.hid (show encS l = if allE l = true then (encTo l l.length, 0) else ([], 2) by unfold encS; rw [if_neg hn])
    have HL := Lib.hid (encTo_length l l.length)
    unfold WritePost at HC
    generalize l.length = N at *
    clear h hE hn
    go_enter Tryd.func13, Tryd.ntmps13
    go_wp2_with fail
    refine HC.out.mono ?_
    rintro e w1 (⟨hok, g, cap, rfl, hb1, hI, hcap⟩ | ⟨hok, m, rfl, hb1⟩)
    · have HB1 := Lib.hid hb1
      have HI := Lib.hid hI
      have HCP := Lib.hid hcap
      have HD2 := Lib.hid (show encS l = (encTo l N, 0) by rw [HD.out, if_pos hok])
      clear hok hb1 hI hcap
      go_wp2_with (go_at_call 21; refine (number_nil _).mono ?_; rintro e w2 ⟨rfl, hb2⟩; have HB2 := Lib.hid hb2; clear hb2)
      go_ret2
      unfold EncR
      rw [HD2.out]
      exact ⟨_, cap, by rw [HL.out]; rfl, HI.out.below HB2.out, by rw [HL.out]; exact HCP.out, below_next HB1.out HB2.out⟩
    · have HB1 := Lib.hid hb1
      have HD2 := Lib.hid (show encS l = ([], 2) by rw [HD.out, if_neg (by rw [hok]; simp)])
      clear hok hb1
      go_wp2_with (go_at_call 21; refine (number_is _ _ _ (HG.out.below HB1.out)).mono ?_; rintro e w2 ⟨rfl, hb2⟩; have HB2 := Lib.hid hb2; clear hb2)
      go_ret2
      unfold EncR
      rw [HD2.out]
      exact ⟨none, 0, rfl, RowAt.nil _ _, Nat.le_refl _, below_next HB1.out HB2.out⟩
end Go.Proofs.YtlcmaokafklheaaDoor
