/- Contract of the document's own answer: are two memories the same? -/
import Derived.Test.YthckkdkijajadaaDoorMH
import Derived.Deep.RegionHeld3

/- Contract of the document's own answer: are two memories the same? -/
namespace Go.Proofs.YthckkdkijajadaaDoor
open Go.RowKit M

theorem conv_any {w : World} {q : Option Addr} {xs : List Int} (h : RowAt w q xs) (c : Nat) : (convert 33 9 (.slice q xs.length c)).run Tryd.prog w = .ok (.string (strOfNums xs)) w := by
  cases xs with
  | nil =>
    cases q with
    | none => exact run_convert_bytes_nil w 33 5 Tryd.underlying33 Tryd.underlying5 _ _ 9 Tryd.underlying9
    | some a =>
      rw [run_convert_bytes_string w 33 9 5 _ _ c Tryd.underlying33 Tryd.underlying5 Tryd.underlying9]
      show (Conv.bytesToString (.slice (some a) 0 c)).run Tryd.prog w = _
      rw [run_bytesToString w a 0 c [] (by simpa using run_loadCells_list (P := Tryd.prog) w a [] (by simp))]
      rfl
  | cons x xs =>
    obtain ⟨b, off, rfl, _, _⟩ := h.cells 0 (by simp)
    refine run_convert_bytes_arg w 33 5 Tryd.underlying33 Tryd.underlying5 b off _ c (x :: xs) rfl (fun i hi => ?_) 9 Tryd.underlying9
    obtain ⟨b', off', e, _, hc⟩ := h.cells i hi
    injection e with e
    injection e with e1 e2
    subst e1 e2
    exact hc
set_option maxHeartbeats 400000 in
theorem rsame_rows (q1 q2 : Option Addr) (c1 c2 : Nat) (xs : List Int) (w : World) (h1 : RowAt w q1 xs) (h2 : RowAt w q2 xs) :
    Calls Tryd.prog 22 #[.slice q1 xs.length c1, .slice q2 xs.length c2] w fun e w' => e = .returned (.bool true) ∧ w = w' := by
  have e1 := conv_any h1 c1
  have e2 := conv_any h2 c2
  generalize strOfNums xs = S at e1 e2
  generalize xs.length = N at e1 e2
  clear h1 h2
  go_enter Tryd.func22, Tryd.ntmps22
  go_wp2
  go_ret
  exact ⟨by simp, rfl⟩
set_option maxRecDepth 100000 in
set_option maxHeartbeats 1000000 in
theorem rsame_mem (m1 m2 : Option Addr) (c1 c2 : Nat) (Q1 Q2 : Nat → Option Addr) (C1 C2 : Nat → Nat) (M : List (List Int)) (w : World) (h1 : MemAt w m1 Q1 C1 M) (h2 : MemAt w m2 Q2 C2 M) :
    Calls Tryd.prog 18 #[.slice m1 M.length c1, .slice m2 M.length c2] w fun e w' => e = .returned (.bool true) ∧ Below w.heap.size w w' := by
  have H1 := Lib.hid h1
  have H2 := Lib.hid h2
  have hs := h1.small
  obtain ⟨K, hK⟩ : ∃ K, M.length = K := ⟨_, rfl⟩
  rw [hK] at hs ⊢
  have HK := Lib.hid hK
  have t0 : ((K : Int) != K) = false := by simp
  clear h1 h2 hK
  go_enter Tryd.func18, Tryd.ntmps18
  go_wp2
  go_loopw [5] (fun i wr => ∃ k : Nat, k ≤ K ∧ i = .int .i64 k ∧ Hid (Below w.heap.size w wr)) (fun i _ => K - (intOf i).toNat)
  case atStart => exact ⟨0, Nat.zero_le _, rfl, Below.refl _ _⟩
  case round =>
    obtain ⟨k, hk, rfl, HB⟩ := hrel
    by_cases hlt : k < K
    · obtain ⟨b1, o1, rfl, _, g1, _, _⟩ := (H1.out.below HB.out).cells k (by rw [HK.out]; exact hlt)
      obtain ⟨b2, o2, rfl, _, g2, _, _⟩ := (H2.out.below HB.out).cells k (by rw [HK.out]; exact hlt)
      have r1 := Lib.hid ((H1.out.below HB.out).row (i := k) (by rw [HK.out]; exact hlt))
      have r2 := Lib.hid ((H2.out.below HB.out).row (i := k) (by rw [HK.out]; exact hlt))
      generalize Q1 k = q1 at g1 r1
      generalize Q2 k = q2 at g2 r2
      generalize C1 k = d1 at g1
      generalize C2 k = d2 at g2
      obtain ⟨R, hR⟩ : ∃ R, M.getD k [] = R := ⟨_, rfl⟩
      rw [hR] at g1 g2 r1 r2
      have HSM := Lib.hid (rsame_rows q1 q2 d1 d2 R)
      obtain ⟨L, hL⟩ : ∃ L, R.length = L := ⟨_, rfl⟩
      rw [hL] at g1 g2 HSM
      clear hR hL
      go_wp2_with fail
      go_region_held3 (fun W => W.cell? ⟨b1, o1 + k, none⟩ = some (.slice q1 L d1) ∧ W.cell? ⟨b2, o2 + k, none⟩ = some (.slice q2 L d2)) (go_keep)
        (first | (go_at_call 22; refine (HSM.out _ (r1.out.below (Below.refl _ _).drew) (r2.out.below (Below.refl _ _).drew)).mono ?_; rintro e w5 ⟨rfl, rfl⟩))
      go_wp2
      go_roundw
      case rel => exact ⟨k + 1, by omega, by go_num, HB.out.drew⟩
      case measure => simp [intOf]; omega
    · go_wp2
      go_ret
      exact ⟨rfl, HB.out⟩
end Go.Proofs.YthckkdkijajadaaDoor

/- Fresh memories, refused or not, in one shape: the program's and the document's. -/
namespace Go.Proofs.YthckkdkijajadaaDoor
open Go.RowKit M

/-- a memory is answered, and a number beside it -/
def FPost (K : Nat) (E : Int) (FM : List (List Int)) (w : World) (e : Ending) (w' : World) : Prop :=
  ∃ mp mc Q C, e = .returned (.tuple #[.slice mp K mc, .int .i64 E]) ∧ MemAt w' mp Q C FM ∧ Below w.heap.size w w'
def freshL (c : Int) (ms : List Ar) (len : Nat) : List (List Int) := if okL c ms = true then freshM (zOf c ms) (len + 2) else []
theorem mem_nil (w : World) (mp : Option Addr) (Q : Nat → Option Addr) (C : Nat → Nat) : MemAt w mp Q C [] :=
  ⟨Nat.zero_le _, fun i => by simp, fun i hi => absurd hi (Nat.not_lt_zero _), fun i j hi => absurd hi (Nat.not_lt_zero _), fun i j hi => absurd hi (Nat.not_lt_zero _)⟩
theorem freshL_post {c : Int} {ms : List Ar} {len : Nat} {w : World} {e : Ending} {w' : World} (ho : okL c ms = true) (h : FreshPost c ms (len + 2) w e w') : FPost (freshL c ms len).length (chk (okL c ms)) (freshL c ms len) w e w' := by
  obtain ⟨g, gc, Q, he, hM, hb⟩ := h
  refine ⟨some ⟨g, 0, none⟩, gc, Q, zOf c ms, ?_, ?_, hb⟩
  · rw [he]; unfold freshL; rw [if_pos ho, ho]; simp [freshM, chk]
  · unfold freshL; rw [if_pos ho]; exact hM
theorem rfreshP (s : Nat → Addr) (c : Int) (cw : Bool) (q : Option Addr) (len cap : Nat) (ms : List Ar) (w : World) (hs : Sent w s) (hm : MapsAt w q len ms) :
    Calls Tryd.prog 8 #[.agg #[.int .i64 c, .bool cw, .slice q len cap]] w (FPost (freshL c ms len).length (chk (okL c ms)) (freshL c ms len) w) := by
  by_cases ho : okL c ms = true
  · exact (rfresh_ok s c cw q len cap ms w hs hm ho).mono fun e w' h => freshL_post ho h
  · have ho' : okL c ms = false := by simpa using ho
    refine (rfresh_bad c cw q len cap ms w hm ho').mono ?_
    rintro e w' ⟨rfl, hb⟩
    refine ⟨none, 0, fun _ => none, fun _ => 0, ?_, ?_, hb⟩
    · unfold freshL; rw [if_neg ho, ho']; rfl
    · unfold freshL; rw [if_neg ho]; exact mem_nil _ _ _ _
end Go.Proofs.YthckkdkijajadaaDoor

/- Contract of the document's own answer: a copy of a memory. -/
namespace Go.Proofs.YthckkdkijajadaaDoor
open Go.RowKit M

/-- a row's block: its bytes are the first of what lies there -/
def RowBlk (w : World) (g : Nat) (xs : List Int) : Prop := ∃ cur : Array Value, w.heap[g]? = some (.cells cur 5 (0, 0)) ∧ cur.toList.take xs.length = bytesV xs
theorem run_append_zero (w : World) (g c : Nat) : (Builtin.append_ #[33, 33] 33 #[.slice (some ⟨g, 0, none⟩) 0 0, .slice none 0 c]).run Tryd.prog w = .ok (.slice (some ⟨g, 0, none⟩) 0 0) w := by
  obtain ⟨i5, h5, g5, s5, b5⟩ := info_parts info5
  simp [Builtin.append_, run_underlying Tryd.underlying33, sizeOf, typeInfo, h5, Builtin.lenOf, Builtin.firstCells, storeCells]
theorem own_zero {w : World} {g : Nat} (h : w.heap[g]? = some (.cells #[] 5 (0, 0))) : w.ownsRow g 5 1 (.slice (some ⟨g, 0, none⟩) 0 0) 0 [] :=
  ⟨rfl, .inr ⟨g, 0, #[], rfl, Nat.le_refl _, h, Nat.le_refl _, Nat.zero_le _, rfl, rfl⟩⟩
theorem append_row' {ops : Array Oper} {rest : List Oper} {o : Oper} {a : Act} {Q' : Exit → Act → World → Prop} (hgd : o.guard = none) (s x : Operand) (ho : o.op = .call { callee := .builtin .append, args := #[s, x], argTypes := #[33, 33] }) (hty : o.type = 33)
    (w : World) (q : Option Addr) (xs : List Int) (c : Nat) (hrow : RowAt w q xs) (g : Nat) (hs : a.eval s = .slice (some ⟨g, 0, none⟩) 0 0) (hg : w.heap[g]? = some (.cells #[] 5 (0, 0))) (hx : a.eval x = .slice q xs.length c)
    (h : ∀ g' cap w', g ≤ g' → RowBlk w' g' xs → xs.length ≤ cap → cap ≤ 9223372036854775807 → w.grownBy w' (some g) → wpList Tryd.prog ops Q' rest (a.put o.dst (.slice (some ⟨g', 0, none⟩) xs.length cap)) w') :
    wpList Tryd.prog ops Q' (o :: rest) a w := by
  have hgl := (Array.getElem?_eq_some_iff.1 hg).1
  by_cases hq : q = none
  · subst hq
    have hl : xs = [] := by
      cases xs with
      | nil => rfl
      | cons y ys => obtain ⟨b, off, e, _⟩ := hrow.cells 0 (by simp); cases e
    subst hl
    refine wpList_plain hgd fun K hK => ?_
    have hrun := run_append_zero w g c
    unfold Oper.wp
    simp only [List.length_nil] at hx
    simp [execOp, ho, resolve, invoke, builtin, hs, hx, hty, hrun, Result.andThen]
    exact hK _ _ (h g 0 w (Nat.le_refl _) ⟨#[], hg, rfl⟩ (Nat.le_refl _) (by omega) ⟨rfl, rfl, rfl, Nat.le_refl _, fun _ _ _ => rfl⟩)
  · obtain ⟨ad, rfl⟩ : ∃ ad, q = some ad := by cases q with | none => exact absurd rfl hq | some a => exact ⟨a, rfl⟩
    obtain ⟨i5, h5, g5, s5, b5⟩ := info_parts info5
    have hsrc : ∀ j u, (bytesV xs)[j]? = some u → w.cell? (ad.add j) = some u := by
      by_cases hp : 0 < xs.length
      · obtain ⟨ad', e, h⟩ := hrow.src hp
        injection e with e
        subst e
        exact h
      · have : xs = [] := by cases xs with | nil => rfl | cons y ys => simp at hp
        subst this
        intro j u hj
        simp [bytesV] at hj
    have hsm := hrow.small
    refine wpList_append_own w hgd s x 33 ho g 5 i5 _ 1 1 Tryd.underlying33 h5 g5 s5 b5 rfl (by decide) (.slice (some ⟨g, 0, none⟩) 0 0) 0 [] hs (own_zero hg) ad xs.length c (bytesV xs) hx (by rw [bytesV_length]; omega) hsrc (bytesV_one xs) (by simp only [maxLen]; omega) (by omega) (Nat.le_of_lt hgl) ?_
    intro v' w' hown hgr hiff
    obtain ⟨hl, ⟨rfl, _⟩ | ⟨g', cap, cur, rfl, hge, hh, h1, h2, h3, h4⟩⟩ := hown
    · exact absurd (hiff.1 rfl).1 (by simp)
    · rw [Nat.zero_add] at h1 h4 ⊢
      rw [Nat.mul_one] at h4
      exact h g' cap w' hge ⟨cur, hh, by simpa using h4⟩ h1 (by simpa [maxLen] using h2) hgr
theorem append_row {ops : Array Oper} {rest : List Oper} {o : Oper} {a : Act} {Q' : Exit → Act → World → Prop} (hgd : o.guard = none) (s x : Operand) (ho : o.op = .call { callee := .builtin .append, args := #[s, x], argTypes := #[33, 33] }) (hty : o.type = 33)
    (w : World) (q : Option Addr) (xs : List Int) (L : Nat) (hL : xs.length = L) (c : Nat) (hrow : RowAt w q xs) (g : Nat) (hs : a.eval s = .slice (some ⟨g, 0, none⟩) 0 0) (hx : a.eval x = .slice q L c) (hg : w.heap[g]? = some (.cells #[] 5 (0, 0)))
    (h : ∀ g' cap w', g ≤ g' → RowBlk w' g' xs → L ≤ cap → cap ≤ 9223372036854775807 → w.grownBy w' (some g) → wpList Tryd.prog ops Q' rest (a.put o.dst (.slice (some ⟨g', 0, none⟩) L cap)) w') :
    wpList Tryd.prog ops Q' (o :: rest) a w := by
  subst hL
  exact append_row' hgd s x ho hty w q xs c hrow g hs hg hx h
end Go.Proofs.YthckkdkijajadaaDoor

/- Contract of the document's own answer: a copy of a memory, each row in a block of its own. -/
namespace Go.Proofs.YthckkdkijajadaaDoor
open Go.RowKit M

def rowC (B C : Nat → Nat) (M : List (List Int)) (i : Nat) : Value := .slice (some ⟨B i, 0, none⟩) (M.getD i []).length (C i)
/-- the first k rows, each in a block of its own -/
structure Copies (base : Nat) (w : World) (B C : Nat → Nat) (M : List (List Int)) (k : Nat) : Prop where
  blk : ∀ i, i < k → RowBlk w (B i) (M.getD i [])
  cap : ∀ i, i < k → (M.getD i []).length ≤ C i ∧ C i ≤ 9223372036854775807
  ge : ∀ i, i < k → base ≤ B i
  inj : ∀ i j, i < k → j < k → i ≠ j → B i ≠ B j
theorem RowBlk.lt {w : World} {g : Nat} {xs : List Int} (h : RowBlk w g xs) : g < w.heap.size := by
  obtain ⟨cur, hh, _⟩ := h
  exact (Array.getElem?_eq_some_iff.1 hh).1
theorem RowBlk.of_block {w w' : World} {g : Nat} {xs : List Int} (h : RowBlk w g xs) (e : w'.heap[g]? = w.heap[g]?) : RowBlk w' g xs := by
  obtain ⟨cur, hh, ht⟩ := h
  exact ⟨cur, e.trans hh, ht⟩
theorem Copies.lt {base : Nat} {w : World} {B C : Nat → Nat} {M : List (List Int)} {k : Nat} (h : Copies base w B C M k) {i : Nat} (hi : i < k) : B i < w.heap.size := (h.blk i hi).lt
theorem Copies.to {base : Nat} {w w' : World} {B C : Nat → Nat} {M : List (List Int)} {k : Nat} (h : Copies base w B C M k) (e : ∀ b, b < w.heap.size → w'.heap[b]? = w.heap[b]?) : Copies base w' B C M k :=
  ⟨fun i hi => (h.blk i hi).of_block (e _ (h.lt hi)), h.cap, h.ge, h.inj⟩
theorem Copies.grown {base0 : Nat} {w w' : World} {B C : Nat → Nat} {M : List (List Int)} {k : Nat} {base : Nat} {v : Value} {n : Nat} {xs : List Value} (h : Copies base0 w B C M k) (ho : w.ownsRow base 33 1 v n xs) (hg : w.grownBy w' v.ownBlock) : Copies base0 w' B C M k :=
  ⟨fun i hi => (h.blk i hi).of_block (hg.block _ (h.lt hi) (by
    obtain ⟨cur, hh, _⟩ := h.blk i hi
    obtain ⟨_, ⟨rfl, _⟩ | ⟨g, cap, cur', rfl, _, hh', _⟩⟩ := ho
    · simp [Value.ownBlock]
    · simp only [Value.ownBlock]
      intro e
      injection e with e
      rw [e, hh'] at hh
      injection hh with hh
      injection hh with _ hh _
      exact absurd hh (by decide))), h.cap, h.ge, h.inj⟩
theorem Copies.snoc {base : Nat} {w : World} {B C : Nat → Nat} {M : List (List Int)} {k g cap : Nat} (h : Copies base w B C M k) (hr : RowBlk w g (M.getD k [])) (hc : (M.getD k []).length ≤ cap ∧ cap ≤ 9223372036854775807) (hg : base ≤ g) (hn : ∀ i, i < k → B i ≠ g) : Copies base w (upd B k g) (upd C k cap) M (k + 1) := by
  refine ⟨fun i hi => ?_, fun i hi => ?_, fun i hi => ?_, fun i j hi hj hne => ?_⟩
  · by_cases e : i = k
    · subst e; simpa [upd] using hr
    · simpa [upd, e] using h.blk i (by omega)
  · by_cases e : i = k
    · subst e; simpa [upd] using hc
    · simpa [upd, e] using h.cap i (by omega)
  · by_cases e : i = k
    · subst e; simpa [upd] using hg
    · simpa [upd, e] using h.ge i (by omega)
  · by_cases e : i = k
    · by_cases e2 : j = k
      · omega
      · have := hn j (by omega)
        simp [upd, e, e2]; omega
    · by_cases e2 : j = k
      · have := hn i (by omega)
        simp [upd, e, e2]; omega
      · have := h.inj i j (by omega) (by omega) hne
        simpa [upd, e, e2] using this
theorem rowC_upd (B C : Nat → Nat) (M : List (List Int)) (k g cap : Nat) : (List.range (k + 1)).map (rowC (upd B k g) (upd C k cap) M) = (List.range k).map (rowC B C M) ++ [.slice (some ⟨g, 0, none⟩) (M.getD k []).length cap] := by
  rw [List.range_succ, List.map_append]
  congr 1
  · apply List.map_congr_left
    intro i hi
    have : i ≠ k := by have := List.mem_range.1 hi; omega
    simp [rowC, upd, this]
  · simp [rowC, upd]
theorem ownsRow_go {base : Nat} {e : TypeId} {size n : Nat} {v : Value} {xs : List Value} {w w' : World} (h : w.ownsRow base e size v n xs) (hb : Below w.heap.size w w') : w'.ownsRow base e size v n xs := by
  obtain ⟨hl, h | ⟨g, cap, cur, hv, hg, hh, r⟩⟩ := h
  · exact ⟨hl, .inl h⟩
  · exact ⟨hl, .inr ⟨g, cap, cur, hv, hg, (hb.block g (Array.getElem?_eq_some_iff.1 hh).1).trans hh, r⟩⟩
/-- what a copy is -/
def CopyPost (M : List (List Int)) (w : World) (e : Ending) (w' : World) : Prop :=
  ∃ v B C, e = .returned v ∧ Below w.heap.size w w' ∧ w'.ownsRow w.heap.size 33 1 v M.length ((List.range M.length).map (rowC B C M)) ∧ Copies w.heap.size w' B C M M.length
theorem below_grown {B : Nat} {a w w' : World} {v : Value} {e : TypeId} {n : Nat} {xs : List Value} (h : Below B a w) (ho : w.ownsRow B e 1 v n xs) (hg : w.grownBy w' v.ownBlock) (hs : B ≤ w.heap.size) : Below B a w' := h.grown hg hs (own_ge ho)
set_option maxRecDepth 100000 in
set_option maxHeartbeats 1000000 in
theorem copy_any (mp : Option Addr) (mc : Nat) (Q : Nat → Option Addr) (C0 : Nat → Nat) (M : List (List Int)) (w : World) (hM : MemAt w mp Q C0 M) (h24 : M.length * 24 ≤ 140737488351232) :
    Calls Tryd.prog 16 #[.slice mp M.length mc] w (CopyPost M w) := by
  have HM := Lib.hid hM
  obtain ⟨i36, h36, g36, s36, b36⟩ := info_parts info36
  have H36 := Lib.hid h36
  have G36 := Lib.hid g36
  have S36 := Lib.hid s36
  have B36 := Lib.hid b36
  unfold CopyPost
  obtain ⟨K, hK⟩ : ∃ K, M.length = K := ⟨_, rfl⟩
  rw [hK] at h24 ⊢
  have HK := Lib.hid hK
  clear hM hK h36 g36 s36 b36
  go_enter Tryd.func16, Tryd.ntmps16
  go_wp2
  go_loopw [3, 4] (fun v i wr => ∃ (k : Nat) (B C : Nat → Nat), k ≤ K ∧ i = .int .i64 k ∧ Hid (Below w.heap.size w wr) ∧ Hid (wr.ownsRow w.heap.size 33 1 v k ((List.range k).map (rowC B C M))) ∧ Hid (Copies w.heap.size wr B C M k)) (fun _ i _ => K - (intOf i).toNat)
  case atStart => exact ⟨0, fun _ => 0, fun _ => 0, Nat.zero_le _, rfl, Below.refl _ _, ⟨rfl, .inl ⟨rfl, rfl⟩⟩, ⟨fun i hi => absurd hi (Nat.not_lt_zero _), fun i hi => absurd hi (Nat.not_lt_zero _), fun i hi => absurd hi (Nat.not_lt_zero _), fun i j hi => absurd hi (Nat.not_lt_zero _)⟩⟩
  case round =>
    obtain ⟨k, B, C, hk, rfl, HB, HOWN, HC⟩ := hrel
    by_cases hlt : k < K
    · have HMR := Lib.hid (HM.out.below HB.out)
      obtain ⟨b, off, rfl, hbl, gc, _, _⟩ := HMR.out.cells k (by rw [HK.out]; exact hlt)
      have HROW := Lib.hid (HMR.out.row (i := k) (by rw [HK.out]; exact hlt))
      have gc1 := fun o => ((Below.refl wr.heap.size wr).alloc (Nat.le_refl _) o).cell (p := ⟨b, off + k, none⟩) hbl
      rw [gc] at gc1
      have HQ := Lib.hid (HMR.out.rsmall k)
      obtain ⟨R, hR⟩ : ∃ R, M.getD k [] = R := ⟨_, rfl⟩
      rw [hR] at gc1 HROW HQ
      have HR := Lib.hid hR
      obtain ⟨L, hL⟩ : ∃ L, R.length = L := ⟨_, rfl⟩
      have HL := Lib.hid hL
      generalize Q k = qk at gc1 HROW
      generalize C0 k = ck at gc1
      rw [hL] at gc1
      clear hR hL gc hbl
      go_wp2_with (at_builtin; refine append_row rfl (.tmp 12) (.tmp 16) rfl rfl _ qk R L HL.out ck (HROW.out.alloc _) wr.heap.size rfl rfl (heap_new wr _) ?_)
      intro g1 cap1 w1 hge1 hblk1 hlc1 hc1 hgr1
      have hB1 := ((Below.refl wr.heap.size wr).alloc (Nat.le_refl _) (.cells #[] 5)).grown hgr1 (by simp) (fun k hk => by injection hk with hk; omega)
      have HOWN1 := Lib.hid (ownsRow_go HOWN.out hB1)
      have HC1 := Lib.hid (HC.out.to hB1.block)
      have HLT := Lib.hid (fun i (hi : i < k) => HC.out.lt hi)
      have HBL1 := Lib.hid hblk1
      have HB2 := Lib.hid (HB.out.trans (hB1.mono HB.out.size))
      have hsz := HB.out.size
      have hsz1 := HB2.out.size
      clear hgr1 hblk1 hB1
      go_wp2_with (at_builtin; refine wpList_append_own _ rfl (.tmp 11) (.tmp 18) 29 rfl w.heap.size 33 i36 _ 1 24 Tryd.underlying29 H36.out G36.out S36.out B36.out rfl (by decide) _ _ _ rfl (HOWN1.out.alloc _) ⟨w1.heap.size, 0, none⟩ 1 1 [.slice (some ⟨g1, 0, none⟩) L cap1] rfl rfl ?c1 ?c2 ?c3 ?c4 ?c5 ?_)
      case c1 => exact cell_one_new _ _ _
      case c2 => simp [Value.oneCell']
      case c3 => simp only [maxLen]; omega
      case c4 => omega
      case c5 => simp; omega
      intro v' w3 hown' hg _
      have hb3 := ((HB2.out.alloc hsz1 (.cells #[.slice (some ⟨g1, 0, none⟩) L cap1] 33))).grown hg (by simp; omega) (own_ge HOWN1.out)
      have hc3 := ((HC1.out.snoc (g := g1) (cap := cap1) (by rw [HR.out]; exact HBL1.out) (by rw [HR.out, HL.out]; exact ⟨hlc1, hc1⟩) (by omega) (fun i hi => by have := HLT.out i hi; omega)).to (w' := w1.alloc (.cells #[.slice (some ⟨g1, 0, none⟩) L cap1] 33)) (((Below.refl w1.heap.size w1).alloc (Nat.le_refl _) _).block)).grown (HOWN1.out.alloc _) hg
      have HO3 := Lib.hid hown'
      have HC3 := Lib.hid hc3
      have HB3 := Lib.hid hb3
      clear hown' hc3 hg hb3
      go_wp2
      go_roundw
      case rel =>
        refine ⟨k + 1, upd B k g1, upd C k cap1, by omega, by go_num, HB3.out, ?_, HC3.out⟩
        rw [rowC_upd, HR.out, HL.out]
        exact HO3.out
      case measure => simp [intOf]; omega
    · go_wp2
      go_ret
      have hkl : k = K := by omega
      subst hkl
      exact ⟨_, B, C, rfl, HB.out, HOWN.out, HC.out⟩
end Go.Proofs.YthckkdkijajadaaDoor
