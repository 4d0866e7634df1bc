/- Contract of the document's own answer: a copy of a memory, each row in a block of its own. -/
import Derived.Test.YtgchdiocbllppaaDoorRJ
namespace Go.Proofs.YtgchdiocbllppaaDoor
open Go.RowKit M

def rowC (B C : Nat → Nat) (M : List (List Int)) (i : Nat) : Value := .slice (some ⟨B i, 0, none⟩) (M.getD i []).length (C i)
/-- the first k rows, each in a block of its own -/
structure Copies (base : Nat) (w : World) (B C : Nat → Nat) (M : List (List Int)) (k : Nat) : Prop where
  blk : ∀ i, i < k → RowBlk w (B i) (M.getD i [])
  cap : ∀ i, i < k → (M.getD i []).length ≤ C i ∧ C i ≤ 9223372036854775807
  ge : ∀ i, i < k → base ≤ B i
  inj : ∀ i j, i < k → j < k → i ≠ j → B i ≠ B j
theorem RowBlk.lt {w : World} {g : Nat} {xs : List Int} (h : RowBlk w g xs) : g < w.heap.size := by
  obtain ⟨cur, hh, _⟩ := h
  exact (Array.getElem?_eq_some_iff.1 hh).1
theorem RowBlk.of_block {w w' : World} {g : Nat} {xs : List Int} (h : RowBlk w g xs) (e : w'.heap[g]? = w.heap[g]?) : RowBlk w' g xs := by
  obtain ⟨cur, hh, ht⟩ := h
  exact ⟨cur, e.trans hh, ht⟩
theorem Copies.lt {base : Nat} {w : World} {B C : Nat → Nat} {M : List (List Int)} {k : Nat} (h : Copies base w B C M k) {i : Nat} (hi : i < k) : B i < w.heap.size := (h.blk i hi).lt
theorem Copies.to {base : Nat} {w w' : World} {B C : Nat → Nat} {M : List (List Int)} {k : Nat} (h : Copies base w B C M k) (e : ∀ b, b < w.heap.size → w'.heap[b]? = w.heap[b]?) : Copies base w' B C M k :=
  ⟨fun i hi => (h.blk i hi).of_block (e _ (h.lt hi)), h.cap, h.ge, h.inj⟩
theorem Copies.grown {base0 : Nat} {w w' : World} {B C : Nat → Nat} {M : List (List Int)} {k : Nat} {base : Nat} {v : Value} {n : Nat} {xs : List Value} (h : Copies base0 w B C M k) (ho : w.ownsRow base 36 1 v n xs) (hg : w.grownBy w' v.ownBlock) : Copies base0 w' B C M k :=
  ⟨fun i hi => (h.blk i hi).of_block (hg.block _ (h.lt hi) (by
    obtain ⟨cur, hh, _⟩ := h.blk i hi
    obtain ⟨_, ⟨rfl, _⟩ | ⟨g, cap, cur', rfl, _, hh', _⟩⟩ := ho
    · simp [Value.ownBlock]
    · simp only [Value.ownBlock]
      intro e
      injection e with e
      rw [e, hh'] at hh
      injection hh with hh
      injection hh with _ hh _
      exact absurd hh (by decide))), h.cap, h.ge, h.inj⟩
theorem Copies.snoc {base : Nat} {w : World} {B C : Nat → Nat} {M : List (List Int)} {k g cap : Nat} (h : Copies base w B C M k) (hr : RowBlk w g (M.getD k [])) (hc : (M.getD k []).length ≤ cap ∧ cap ≤ 9223372036854775807) (hg : base ≤ g) (hn : ∀ i, i < k → B i ≠ g) : Copies base w (upd B k g) (upd C k cap) M (k + 1) := by
  refine ⟨fun i hi => ?_, fun i hi => ?_, fun i hi => ?_, fun i j hi hj hne => ?_⟩
  · by_cases e : i = k
    · subst e; simpa [upd] using hr
    · simpa [upd, e] using h.blk i (by omega)
  · by_cases e : i = k
    · subst e; simpa [upd] using hc
    · simpa [upd, e] using h.cap i (by omega)
  · by_cases e : i = k
    · subst e; simpa [upd] using hg
    · simpa [upd, e] using h.ge i (by omega)
  · by_cases e : i = k
    · by_cases e2 : j = k
      · omega
      · have := hn j (by omega)
        simp [upd, e, e2]; omega
    · by_cases e2 : j = k
      · have := hn i (by omega)
        simp [upd, e, e2]; omega
      · have := h.inj i j (by omega) (by omega) hne
        simpa [upd, e, e2] using this
theorem rowC_upd (B C : Nat → Nat) (M : List (List Int)) (k g cap : Nat) : (List.range (k + 1)).map (rowC (upd B k g) (upd C k cap) M) = (List.range k).map (rowC B C M) ++ [.slice (some ⟨g, 0, none⟩) (M.getD k []).length cap] := by
  rw [List.range_succ, List.map_append]
  congr 1
  · apply List.map_congr_left
    intro i hi
    have : i ≠ k := by have := List.mem_range.1 hi; omega
    simp [rowC, upd, this]
  · simp [rowC, upd]
theorem ownsRow_go {base : Nat} {e : TypeId} {size n : Nat} {v : Value} {xs : List Value} {w w' : World} (h : w.ownsRow base e size v n xs) (hb : Below w.heap.size w w') : w'.ownsRow base e size v n xs := by
  obtain ⟨hl, h | ⟨g, cap, cur, hv, hg, hh, r⟩⟩ := h
  · exact ⟨hl, .inl h⟩
  · exact ⟨hl, .inr ⟨g, cap, cur, hv, hg, (hb.block g (Array.getElem?_eq_some_iff.1 hh).1).trans hh, r⟩⟩
/-- what a copy is -/
def CopyPost (M : List (List Int)) (w : World) (e : Ending) (w' : World) : Prop :=
  ∃ v B C, e = .returned v ∧ Below w.heap.size w w' ∧ w'.ownsRow w.heap.size 36 1 v M.length ((List.range M.length).map (rowC B C M)) ∧ Copies w.heap.size w' B C M M.length
theorem below_grown {B : Nat} {a w w' : World} {v : Value} {e : TypeId} {n : Nat} {xs : List Value} (h : Below B a w) (ho : w.ownsRow B e 1 v n xs) (hg : w.grownBy w' v.ownBlock) (hs : B ≤ w.heap.size) : Below B a w' := h.grown hg hs (own_ge ho)
set_option maxRecDepth 100000 in
set_option maxHeartbeats 1000000 in
theorem copy_any (mp : Option Addr) (mc : Nat) (Q : Nat → Option Addr) (C0 : Nat → Nat) (M : List (List Int)) (w : World) (hM : MemAt w mp Q C0 M) (h24 : M.length * 24 ≤ 140737488351232) :
    Calls Tryd.prog 30 #[.slice mp M.length mc] w (CopyPost M w) := by
  have HM := Lib.hid hM
  obtain ⟨i36, h36, g36, s36, b36⟩ := info_parts info36
  have H36 := Lib.hid h36
  have G36 := Lib.hid g36
  have S36 := Lib.hid s36
  have B36 := Lib.hid b36
  unfold CopyPost
  obtain ⟨K, hK⟩ : ∃ K, M.length = K := ⟨_, rfl⟩
  rw [hK] at h24 ⊢
  have HK := Lib.hid hK
  clear hM hK h36 g36 s36 b36
  go_enter Tryd.func30, Tryd.ntmps30
  go_wp2
  go_loopw [3, 4] (fun v i wr => ∃ (k : Nat) (B C : Nat → Nat), k ≤ K ∧ i = .int .i64 k ∧ Hid (Below w.heap.size w wr) ∧ Hid (wr.ownsRow w.heap.size 36 1 v k ((List.range k).map (rowC B C M))) ∧ Hid (Copies w.heap.size wr B C M k)) (fun _ i _ => K - (intOf i).toNat)
  case atStart => exact ⟨0, fun _ => 0, fun _ => 0, Nat.zero_le _, rfl, Below.refl _ _, ⟨rfl, .inl ⟨rfl, rfl⟩⟩, ⟨fun i hi => absurd hi (Nat.not_lt_zero _), fun i hi => absurd hi (Nat.not_lt_zero _), fun i hi => absurd hi (Nat.not_lt_zero _), fun i j hi => absurd hi (Nat.not_lt_zero _)⟩⟩
  case round =>
    obtain ⟨k, B, C, hk, rfl, HB, HOWN, HC⟩ := hrel
    by_cases hlt : k < K
    · have HMR := Lib.hid (HM.out.below HB.out)
      obtain ⟨b, off, rfl, hbl, gc, _, _⟩ := HMR.out.cells k (by rw [HK.out]; exact hlt)
      have HROW := Lib.hid (HMR.out.row (i := k) (by rw [HK.out]; exact hlt))
      have gc1 := fun o => ((Below.refl wr.heap.size wr).alloc (Nat.le_refl _) o).cell (p := ⟨b, off + k, none⟩) hbl
      rw [gc] at gc1
      have HQ := Lib.hid (HMR.out.rsmall k)
      obtain ⟨R, hR⟩ : ∃ R, M.getD k [] = R := ⟨_, rfl⟩
      rw [hR] at gc1 HROW HQ
      have HR := Lib.hid hR
      obtain ⟨L, hL⟩ : ∃ L, R.length = L := ⟨_, rfl⟩
      have HL := Lib.hid hL
      generalize Q k = qk at gc1 HROW
      generalize C0 k = ck at gc1
      rw [hL] at gc1
      clear hR hL gc hbl
      go_wp2_with (at_builtin; refine append_row rfl (.tmp 12) (.tmp 16) rfl rfl _ qk R L HL.out ck (HROW.out.alloc _) wr.heap.size rfl rfl (heap_new wr _) ?_)
      intro g1 cap1 w1 hge1 hblk1 hlc1 hc1 hgr1
      have hB1 := ((Below.refl wr.heap.size wr).alloc (Nat.le_refl _) (.cells #[] 5)).grown hgr1 (by simp) (fun k hk => by injection hk with hk; omega)
      have HOWN1 := Lib.hid (ownsRow_go HOWN.out hB1)
      have HC1 := Lib.hid (HC.out.to hB1.block)
      have HLT := Lib.hid (fun i (hi : i < k) => HC.out.lt hi)
      have HBL1 := Lib.hid hblk1
      have HB2 := Lib.hid (HB.out.trans (hB1.mono HB.out.size))
      have hsz := HB.out.size
      have hsz1 := HB2.out.size
      clear hgr1 hblk1 hB1
      go_wp2_with (at_builtin; refine wpList_append_own _ rfl (.tmp 11) (.tmp 18) 28 rfl w.heap.size 36 i36 _ 1 24 Tryd.underlying28 H36.out G36.out S36.out B36.out rfl (by decide) _ _ _ rfl (HOWN1.out.alloc _) ⟨w1.heap.size, 0, none⟩ 1 1 [.slice (some ⟨g1, 0, none⟩) L cap1] rfl rfl ?c1 ?c2 ?c3 ?c4 ?c5 ?_)
      case c1 => exact cell_one_new _ _ _
      case c2 => simp [Value.oneCell']
      case c3 => simp only [maxLen]; omega
      case c4 => omega
      case c5 => simp; omega
      intro v' w3 hown' hg _
      have hb3 := ((HB2.out.alloc hsz1 (.cells #[.slice (some ⟨g1, 0, none⟩) L cap1] 36))).grown hg (by simp; omega) (own_ge HOWN1.out)
      have hc3 := ((HC1.out.snoc (g := g1) (cap := cap1) (by rw [HR.out]; exact HBL1.out) (by rw [HR.out, HL.out]; exact ⟨hlc1, hc1⟩) (by omega) (fun i hi => by have := HLT.out i hi; omega)).to (w' := w1.alloc (.cells #[.slice (some ⟨g1, 0, none⟩) L cap1] 36)) (((Below.refl w1.heap.size w1).alloc (Nat.le_refl _) _).block)).grown (HOWN1.out.alloc _) hg
      have HO3 := Lib.hid hown'
      have HC3 := Lib.hid hc3
      have HB3 := Lib.hid hb3
      clear hown' hc3 hg hb3
      go_wp2
      go_roundw
      case rel =>
        refine ⟨k + 1, upd B k g1, upd C k cap1, by omega, by go_num, HB3.out, ?_, HC3.out⟩
        rw [rowC_upd, HR.out, HL.out]
        exact HO3.out
      case measure => simp [intOf]; omega
    · go_wp2
      go_ret
      have hkl : k = K := by omega
      subst hkl
      exact ⟨_, B, C, rfl, HB.out, HOWN.out, HC.out⟩
end Go.Proofs.YtgchdiocbllppaaDoor
