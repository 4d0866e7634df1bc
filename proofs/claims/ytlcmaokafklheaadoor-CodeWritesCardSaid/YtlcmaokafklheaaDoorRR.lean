/- Contracts of read and Decode: which instructions bytes are, or why none. -/
import Derived.Test.YtlcmaokafklheaaDoorI
import Derived.Test.YtlcmaokafklheaaDoorP3
import Derived.Laws.MakeOwn
namespace Go.Proofs.YtlcmaokafklheaaDoor
open Go.RowKit M

/-- what instruction answers at a place that is no hole -/
def InsPost (S : Nat → In) (n k : Nat) (w : World) (e : Ending) (w' : World) : Prop :=
  ∃ X : In, e = .returned (.tuple #[.agg #[.int .i64 X.op, .int .i64 X.dst, .int .i64 X.src, .int .i64 X.off, .int .i64 X.imm, .int .u64 X.wide], .bool (!badB S n k)]) ∧ (badB S n k = false → X = dec S k) ∧ Below w.heap.size w w'
theorem ins_at (gs b off n k mc : Nat) (xs : List Int) (w : World) (hl : xs.length = n * 8) (hk : k < n) (hn : n ≤ 4096) (hr : RowsAt w) (hx : RowAt w (some ⟨b, off, none⟩) xs) (hs : w.rowIs gs 22 n (slotV b off)) (hnh : hR (opsOf (slotOf xs)) k = false) :
    Calls Tryd.prog 32 #[.slice (some ⟨gs, k, none⟩) (n - k) mc] w (InsPost (slotOf xs) n k w) := by
  have r0 := hx.cut (o := k * 8) (n := 8) (by omega)
  have l0 : (cut xs (k * 8) 8).length = 8 := cut_length (by omega)
  have c0 : w.cell? ⟨gs, k, none⟩ = some (.slice (some ⟨b, off + k * 8, none⟩) (cut xs (k * 8) 8).length 8) := by rw [l0]; exact hs.cell hk
  by_cases hop : (slotOf xs k).op = 24
  · by_cases hk1 : k + 1 < n
    · have r1 := hx.cut (o := (k + 1) * 8) (n := 8) (by omega)
      have l1 : (cut xs ((k + 1) * 8) 8).length = 8 := cut_length (by omega)
      have c1 : w.cell? ⟨gs, k + 1, none⟩ = some (.slice (some ⟨b, off + (k + 1) * 8, none⟩) (cut xs ((k + 1) * 8) 8).length 8) := by rw [l1]; exact hs.cell hk1
      refine (ins_wide gs k (n - k) mc _ _ _ _ w (by omega) (by omega) hs.lt c0 c1 r0 r1 hr hop).mono fun e w' ⟨he, hb⟩ => ?_
      have hbad : badB (slotOf xs) n k = !okHole (slotOf xs (k + 1)) := by unfold badB; rw [hnh, decide_eq_true hop, decide_eq_true hk1]; simp
      refine ⟨{ slotOf xs k with wide := wideOf (slotOf xs k) (slotOf xs (k + 1)) }, ?_, fun _ => ?_, hb⟩
      · rw [hbad, Bool.not_not]; exact he
      · unfold dec
        rw [hnh, if_neg (by simp), if_pos hop]
    · have hbad : badB (slotOf xs) n k = true := by unfold badB; rw [hnh, decide_eq_true hop, decide_eq_false hk1]; simp
      have e1 : n - k = 1 := by omega
      rw [e1]
      refine (ins_short gs k mc _ _ w hs.lt c0 r0 hr hop).mono fun e w' ⟨he, hb⟩ => ⟨z, by rw [hbad]; exact he, fun h => ?_, hb⟩
      rw [hbad] at h; cases h
  · have hbad : badB (slotOf xs) n k = false := by unfold badB; rw [hnh, decide_eq_false hop]; simp
    refine (ins_plain gs k (n - k) mc _ _ w (by omega) (by omega) hs.lt c0 r0 hr hop).mono fun e w' ⟨he, hb⟩ => ⟨slotOf xs k, by rw [hbad]; exact he, fun _ => ?_, hb⟩
    unfold dec
    rw [hnh, if_neg (by simp), if_neg hop]
/-- what read answers -/
def ReadPost (S : Nat → In) (n : Nat) (w : World) (e : Ending) (w' : World) : Prop :=
  (okS S n = true ∧ ∃ g, e = .returned (.tuple #[.slice (some ⟨g, 0, none⟩) n n, .nilIface]) ∧ Below w.heap.size w w' ∧ InsAt w' (some ⟨g, 0, none⟩) (decL S n)) ∨
  (okS S n = false ∧ ∃ m : Int, e = .returned (.tuple #[.slice none 0 0, .iface 67 (.agg #[.int .i64 30, .int .i64 m])]) ∧ Below w.heap.size w w')
theorem hole_at (g n k : Nat) (S : Nat → In) (W : World) (hk : k < n) (hn : n ≤ 4096) (hb : ∀ i, Bd (dec S i)) (h : W.rowIs g 38 (n * 6) (rowL (part6 (dec S) k))) :
    Calls Tryd.prog 16 #[.slice (some ⟨g, 0, none⟩) n n, .int .i64 k] W fun e w' => e = .returned (.bool (hR (opsOf S) k)) ∧ W = w' := by
  have hp : ∀ i, i < n → Bd (part6 (dec S) k i) := fun i _ => by unfold part6; split; exact hb i; exact Bd.z
  have := hole_any (some ⟨g, 0, none⟩) n ((List.range n).map (part6 (dec S) k)) k W (insAt_row h rfl hn hp)
  rw [hole_part hk] at this
  simpa using this
theorem make38 (n : Nat) (hn : n ≤ 4096) (w : World) : (Instr.makeSlice 23 (.int .i64 (n : Int)) (.int .i64 (n : Int))).run Tryd.prog w = .ok (.slice (some ⟨w.heap.size, 0, none⟩) n n) (w.alloc (.cells (madeCells #[.int .i64 0, .int .i64 0, .int .i64 0, .int .i64 0, .int .i64 0, .int .u64 0] (n * 6)) 38)) := by
  obtain ⟨i38, h38, g38, s38, b38⟩ := info_parts info38
  have hr := run_make (P := Tryd.prog) w 23 38 i38 _ Tryd.underlying23 h38 g38 .i64 .i64 n n (by omega) (Int.le_refl _) (by rw [b38]; omega) (by omega)
  simp only [Int.toNat_natCast, s38] at hr
  exact hr
theorem part6_hole {S : Nat → In} {k : Nat} (h : hR (opsOf S) k = true) : part6 (dec S) (k + 1) = part6 (dec S) k := by
  funext i
  unfold part6
  by_cases e : i = k
  · subst e
    rw [if_pos (by omega), if_neg (by omega)]
    unfold dec
    rw [h]; rfl
  · by_cases h1 : i < k
    · rw [if_pos (by omega), if_pos h1]
    · rw [if_neg (by omega), if_neg h1]
theorem part6_at (L : Nat → In) (k : Nat) : part6 L (k + 1) k = L k := if_pos (by omega)
theorem part6_ne (L : Nat → In) {k i : Nat} (h : i ≠ k) : part6 L (k + 1) i = part6 L k i := by
  unfold part6
  by_cases h1 : i < k
  · rw [if_pos (by omega), if_pos h1]
  · rw [if_neg (by omega), if_neg h1]
theorem bset6 {B b : Nat} {w W : World} (h : Below B w W) (hb : B ≤ b) (o0 o1 o2 o3 o4 o5 : Nat) (v0 v1 v2 v3 v4 v5 : Value) : Below B w ((((((W.setCell ⟨b, o0, none⟩ v0).setCell ⟨b, o1, none⟩ v1).setCell ⟨b, o2, none⟩ v2).setCell ⟨b, o3, none⟩ v3).setCell ⟨b, o4, none⟩ v4).setCell ⟨b, o5, none⟩ v5) :=
  (((((h.setCell (p := ⟨b, o0, none⟩) hb _).setCell (p := ⟨b, o1, none⟩) hb _).setCell (p := ⟨b, o2, none⟩) hb _).setCell (p := ⟨b, o3, none⟩) hb _).setCell (p := ⟨b, o4, none⟩) hb _).setCell (p := ⟨b, o5, none⟩) hb _
theorem rset6 {W : World} {g b : Nat} {t : TypeId} {n : Nat} {f : Nat → Value} (h : W.rowIs g t n f) (hb : g ≠ b) (o0 o1 o2 o3 o4 o5 : Nat) (v0 v1 v2 v3 v4 v5 : Value) : ((((((W.setCell ⟨b, o0, none⟩ v0).setCell ⟨b, o1, none⟩ v1).setCell ⟨b, o2, none⟩ v2).setCell ⟨b, o3, none⟩ v3).setCell ⟨b, o4, none⟩ v4).setCell ⟨b, o5, none⟩ v5).rowIs g t n f :=
  (((((h.setOther (a := ⟨b, o0, none⟩) hb _).setOther (a := ⟨b, o1, none⟩) hb _).setOther (a := ⟨b, o2, none⟩) hb _).setOther (a := ⟨b, o3, none⟩) hb _).setOther (a := ⟨b, o4, none⟩) hb _).setOther (a := ⟨b, o5, none⟩) hb _
theorem cells6 {w : World} {g n k : Nat} {L : Nat → In} (h : w.rowIs g 38 (n * 6) (rowL L)) (hk : k < n) : ∀ j, j < 6 → ∃ v, w.cell? ⟨g, k * 6 + j, none⟩ = some v ∧ w.frozen? ⟨g, k * 6 + j, none⟩ = false :=
  fun j hj => ⟨_, h.cell (by omega), h.frozen _⟩
set_option maxRecDepth 100000 in
set_option maxHeartbeats 8000000 in
theorem read_any (b off qc n : Nat) (xs : List Int) (w : World) (hl : xs.length = n * 8) (h1 : 1 ≤ n) (h2 : n ≤ 4096) (hc : n * 8 ≤ qc) (hr : RowsAt w) (h : RowAt w (some ⟨b, off, none⟩) xs) :
    Calls Tryd.prog 20 #[.slice (some ⟨b, off, none⟩) (n * 8) qc] w (ReadPost (slotOf xs) n w) := by
  have HC := Lib.hid (fun W => cut_ok b off qc n W h1 h2 hc)
  have HI := Lib.hid (fun gs k mc W hk hr hx hs hnh => ins_at gs b off n k mc xs W hl hk h2 hr hx hs hnh)
  have HBD := Lib.hid (fun i => dec_bd (slotOf_bd xs) i)
  have HA := Lib.hid (fun g k W hk h => hole_at g n k (slotOf xs) W hk h2 HBD.out h)
  unfold InsPost at HI
  have hmk := make38 n h2
  have H := Lib.hid h
  have HR := Lib.hid hr
  generalize slotOf xs = S at *
  obtain ⟨N, hN⟩ : ∃ N, n * 8 = N := ⟨_, rfl⟩
  rw [hN] at HC ⊢
  clear hN hl h hr hc
  go_enter Tryd.func20, Tryd.ntmps20
  go_wp2_with (go_at_call 31; refine (HC.out _).mono ?_; rintro e w1 ⟨rfl, hb1, hs1⟩; have HB1 := Lib.hid hb1; have HS1 := Lib.hid hs1; have hz1 : w.heap.size < w1.heap.size := hs1.lt; clear hb1 hs1)
  go_loopw [23] (fun i wr => ∃ k : Nat, k ≤ n ∧ i = .int .i64 k ∧ Below w.heap.size w wr ∧ wr.rowIs w.heap.size 22 n (slotV b off) ∧ wr.rowIs w1.heap.size 38 (n * 6) (rowL (part6 (dec S) k)) ∧ Hid (∀ j, j < k → badB S n j = false)) (fun i _ => n - (intOf i).toNat)
  case atStart => exact ⟨0, Nat.zero_le _, rfl, HB1.out.alloc (Nat.le_of_lt hz1) _, HS1.out.alloc _, (rowL_made w1 n).congr (fun i _ => by simp [rowL, part6]), Lib.hid (fun j hj => absurd hj (Nat.not_lt_zero _))⟩
  case round =>
    obtain ⟨k, hk, rfl, hb, hs, hrow, hnb⟩ := hrel
    have HB := Lib.hid hb
    have HS := Lib.hid hs
    have HROW := Lib.hid hrow
    clear hb hs hrow
    by_cases hlt : k < n
    · have HAk := Lib.hid (HA.out w1.heap.size k wr hlt HROW.out)
      cases hh : hR (opsOf S) k
      · rw [hh] at HAk
        have HIk := Lib.hid (fun mc W hr hx hs => HI.out w.heap.size k mc W hlt hr hx hs hh)
        have HH := Lib.hid hh
        clear hh
        cases hbad : badB S n k
        · rw [hbad] at HIk
          have HBAD := Lib.hid hbad
          clear hbad
          obtain ⟨v0, c0, f0⟩ := cells6 HROW.out hlt 0 (by omega)
          obtain ⟨v1, c1, f1⟩ := cells6 HROW.out hlt 1 (by omega)
          obtain ⟨v2, c2, f2⟩ := cells6 HROW.out hlt 2 (by omega)
          obtain ⟨v3, c3, f3⟩ := cells6 HROW.out hlt 3 (by omega)
          obtain ⟨v4, c4, f4⟩ := cells6 HROW.out hlt 4 (by omega)
          obtain ⟨v5, c5, f5⟩ := cells6 HROW.out hlt 5 (by omega)
          rw [Nat.add_zero] at c0 f0
          go_wp2_with (first
            | (go_at_call 16; refine HAk.out.mono ?_; rintro e w3 ⟨rfl, rfl⟩)
            | (go_at_call 32; refine (HIk.out _ _ (HR.out.below HB.out) (H.out.below HB.out) HS.out).mono ?_; rintro e w3 ⟨X, rfl, hX, hb3⟩; have HX := Lib.hid (hX (by trivial)); clear hX; obtain ⟨hc, hf⟩ := bcell hb3; have hz3 : w1.heap.size < w3.heap.size := Nat.lt_of_lt_of_le HROW.out.lt hb3.size; have hz4 : w1.heap.size < wr.heap.size := HROW.out.lt; have HB3 := Lib.hid hb3; clear hb3))
          go_roundw
          case rel =>
            refine ⟨k + 1, by omega, by go_num, (bset6 (HB.out.trans (HB3.out.mono HB.out.size)) (Nat.le_of_lt hz1) _ _ _ _ _ _ _ _ _ _ _ _).alloc (by simp; omega) _, (rset6 (rowIs_below HS.out HB3.out HS.out.lt) (by omega) _ _ _ _ _ _ _ _ _ _ _ _).alloc _, (rowL_set6 (rowIs_below HROW.out HB3.out HROW.out.lt) ((part6_at _ _).trans HX.out.symm) (fun i hi => part6_ne _ hi)).alloc _, Lib.hid (fun j hj => ?_)⟩
            by_cases e : j = k
            · subst e; exact HBAD.out
            · exact hnb.out j (by omega)
          case measure => simp [intOf]; omega
        · rw [hbad] at HIk
          have HBAD := Lib.hid hbad
          clear hbad
          go_wp2_with (first
            | (go_at_call 16; refine HAk.out.mono ?_; rintro e w3 ⟨rfl, rfl⟩)
            | (go_at_call 32; refine (HIk.out _ _ (HR.out.below HB.out) (H.out.below HB.out) HS.out).mono ?_; rintro e w3 ⟨X, rfl, _, hb3⟩; have HB3 := Lib.hid hb3; clear hb3))
          go_ret2
          refine .inr ⟨okS_false hlt HBAD.out, (k : Int), rfl, ?_⟩
          exact (HB.out.trans (HB3.out.mono HB.out.size)).alloc (Nat.le_trans HB.out.size HB3.out.size) _
      · rw [hh] at HAk
        have HH := Lib.hid hh
        clear hh
        go_wp2_with (go_at_call 16; refine HAk.out.mono ?_; rintro e w3 ⟨rfl, rfl⟩)
        go_roundw
        case rel =>
          refine ⟨k + 1, by omega, by go_num, HB.out, HS.out, by rw [part6_hole HH.out]; exact HROW.out, Lib.hid (fun j hj => ?_)⟩
          by_cases e : j = k
          · subst e; unfold badB; rw [HH.out]; rfl
          · exact hnb.out j (by omega)
        case measure => simp [intOf]; omega
    · have hkn : k = n := by omega
      subst hkn
      go_wp2
      go_ret2
      refine .inl ⟨okS_true.2 hnb.out, _, rfl, HB.out, ?_⟩
      have := insAt_row HROW.out rfl h2 (fun i hi => by unfold part6; rw [if_pos hi]; exact HBD.out i)
      have e : (List.range k).map (part6 (dec S) k) = decL S k := by
        unfold decL
        apply List.map_congr_left
        intro i hi
        have : i < k := List.mem_range.1 hi
        simp [part6, this]
      rwa [e] at this
theorem read_none (q : Option Addr) (qc : Nat) (N : Nat) (w : World) (hN : N ≤ 140737488351232) (h : N = 0 ∨ N % 8 ≠ 0) :
    Calls Tryd.prog 20 #[.slice q N qc] w fun e w' => e = .returned (.tuple #[.slice none 0 0, .iface 67 (.agg #[.int .i64 30, .int .i64 ((N : Int) / 8)])]) ∧ w = w' := by
  have HC := Lib.hid (fun W => cut_none q qc N W hN h)
  clear h
  go_enter Tryd.func20, Tryd.ntmps20
  go_wp2_with (go_at_call 31; refine (HC.out _).mono ?_; rintro e w1 ⟨rfl, rfl⟩)
  go_ret2
  exact ⟨rfl, rfl⟩
theorem read_long (q : Option Addr) (qc : Nat) (N : Nat) (w : World) (hN : N ≤ 140737488351232) (h : N % 8 = 0) (hl : 32768 < N) :
    Calls Tryd.prog 20 #[.slice q N qc] w fun e w' => e = .returned (.tuple #[.slice none 0 0, .iface 67 (.agg #[.int .i64 31, .int .i64 4096])]) ∧ w = w' := by
  have HC := Lib.hid (fun W => cut_long q qc N W hN h hl)
  clear h
  go_enter Tryd.func20, Tryd.ntmps20
  go_wp2_with (go_at_call 31; refine (HC.out _).mono ?_; rintro e w1 ⟨rfl, rfl⟩)
  go_ret2
  exact ⟨rfl, rfl⟩
theorem dec_none (q : Option Addr) (qc : Nat) (N : Nat) (w : World) (hN : N ≤ 140737488351232) (h : N = 0 ∨ N % 8 ≠ 0) (hg : ErrT w) :
    Calls Tryd.prog 9 #[.slice q N qc] w fun e w' => e = .returned (.tuple #[.slice none 0 0, .int .i64 30]) ∧ Below w.heap.size w w' := by
  have HC := Lib.hid (fun W => read_none q qc N W hN h)
  have HG := Lib.hid hg
  clear h hg
  go_enter Tryd.func9, Tryd.ntmps9
  go_wp2_with (first
    | (go_at_call 20; refine (HC.out _).mono ?_; rintro e w1 ⟨rfl, rfl⟩)
    | (go_at_call 21; refine (number_is _ _ _ HG.out).mono ?_; rintro e w1 ⟨rfl, hb1⟩))
  go_ret2
  exact ⟨rfl, hb1⟩
theorem dec_long (q : Option Addr) (qc : Nat) (N : Nat) (w : World) (hN : N ≤ 140737488351232) (h : N % 8 = 0) (hl : 32768 < N) (hg : ErrT w) :
    Calls Tryd.prog 9 #[.slice q N qc] w fun e w' => e = .returned (.tuple #[.slice none 0 0, .int .i64 31]) ∧ Below w.heap.size w w' := by
  have HC := Lib.hid (fun W => read_long q qc N W hN h hl)
  have HG := Lib.hid hg
  clear h hg
  go_enter Tryd.func9, Tryd.ntmps9
  go_wp2_with (first
    | (go_at_call 20; refine (HC.out _).mono ?_; rintro e w1 ⟨rfl, rfl⟩)
    | (go_at_call 21; refine (number_is _ _ _ HG.out).mono ?_; rintro e w1 ⟨rfl, hb1⟩))
  go_ret2
  exact ⟨rfl, hb1⟩
theorem dec_any (b off qc n : Nat) (xs : List Int) (w : World) (hl : xs.length = n * 8) (h1 : 1 ≤ n) (h2 : n ≤ 4096) (hc : n * 8 ≤ qc) (hr : RowsAt w) (hg : ErrT w) (h : RowAt w (some ⟨b, off, none⟩) xs) :
    Calls Tryd.prog 9 #[.slice (some ⟨b, off, none⟩) (n * 8) qc] w (DecPost (slotOf xs) n w) := by
  have HC := Lib.hid (read_any b off qc n xs w hl h1 h2 hc hr h)
  have HG := Lib.hid hg
  obtain ⟨N, hN⟩ : ∃ N, n * 8 = N := ⟨_, rfl⟩
  rw [hN] at HC ⊢
  generalize slotOf xs = S at *
  clear h hr hg hl hc hN
  go_enter Tryd.func9, Tryd.ntmps9
  go_wp2_with fail
  refine HC.out.mono ?_
  rintro e w1 (⟨hok, g, rfl, hb1, hI⟩ | ⟨hok, m, rfl, hb1⟩)
  · have HOK := Lib.hid hok
    have HB1 := Lib.hid hb1
    have HI := Lib.hid hI
    clear hok hb1 hI
    go_wp2_with (go_at_call 21; refine (number_nil _).mono ?_; rintro e w2 ⟨rfl, hb2⟩)
    go_ret2
    exact .inl ⟨HOK.out, g, n, rfl, below_next HB1.out hb2, HI.out.below hb2⟩
  · have HOK := Lib.hid hok
    have HB1 := Lib.hid hb1
    clear hok hb1
    go_wp2_with (go_at_call 21; refine (number_is _ _ _ (HG.out.below HB1.out)).mono ?_; rintro e w2 ⟨rfl, hb2⟩)
    go_ret2
    exact .inr ⟨HOK.out, rfl, below_next HB1.out hb2⟩
end Go.Proofs.YtlcmaokafklheaaDoor
