/- Contracts of the two comparisons, and closed facts on what the laws ask at any rate. -/
import Derived.Test.YtlcmaokafklheaaDoorRR
import Derived.Test.YtlcmaokafklheaaDoorT
import Derived.Deep.RegionHeld3
namespace Go.Proofs.YtlcmaokafklheaaDoor
open Go.RowKit M

theorem getD_ext {a b : List In} (hl : a.length = b.length) (h : ∀ i, i < a.length → a.getD i z = b.getD i z) : a = b := by
  apply List.ext_getElem hl
  intro i h1 h2
  have := h i h1
  simpa [h1, h2] using this
theorem neq_r (x y : In) (w : World) : (Op.equalIn 10000 38 (.agg #[.int .i64 x.op, .int .i64 x.dst, .int .i64 x.src, .int .i64 x.off, .int .i64 x.imm, .int .u64 x.wide]) (.agg #[.int .i64 y.op, .int .i64 y.dst, .int .i64 y.src, .int .i64 y.off, .int .i64 y.imm, .int .u64 y.wide])).run Tryd.prog w = .ok (eqB x y) w := by
  have h := eq38 x y w
  unfold iV at h
  rw [run_eql_struct] at h
  revert h
  generalize (Op.equalIn 10000 38 _ _).run Tryd.prog w = r
  intro h
  cases r with
  | ok b w1 => simp [Result.andThen] at h; obtain ⟨h1, h2⟩ := h; subst h1 h2; rfl
  | halt a w1 => simp [Result.andThen] at h
set_option maxHeartbeats 1000000 in
theorem same_eq (p q : Option Addr) (c d : Nat) (a : List In) (w : World) (h1 : InsAt w p a) (h2 : InsAt w q a) :
    Calls Tryd.prog 11 #[.slice p a.length c, .slice q a.length d] w fun e w' => e = .returned (.bool true) ∧ Below w.heap.size w w' := by
  have hs := h1.small
  have H1 := Lib.hid h1
  have H2 := Lib.hid h2
  obtain ⟨N, hN⟩ : ∃ N, a.length = N := ⟨_, rfl⟩
  rw [hN] at hs ⊢
  have HN := Lib.hid hN
  clear hN h1 h2
  go_enter Tryd.func11, Tryd.ntmps11
  go_wp2
  go_loopw [5] (fun i wr => ∃ k : Nat, k ≤ N ∧ i = .int .i64 k ∧ Below w.heap.size w wr) (fun i _ => N - (intOf i).toNat)
  case atStart => exact ⟨0, Nat.zero_le _, rfl, Below.refl _ _⟩
  case round =>
    obtain ⟨k, hk, rfl, hb⟩ := hrel
    have HB := Lib.hid hb
    by_cases hlt : k < N
    · obtain ⟨b1, o1, rfl, hl1, c0, c1, c2, c3, c4, c5⟩ := (H1.out.below hb).cells k (by rw [HN.out]; exact hlt)
      obtain ⟨b2, o2, rfl, hl2, d0, d1, d2, d3, d4, d5⟩ := (H2.out.below hb).cells k (by rw [HN.out]; exact hlt)
      clear hb
      have hne := fun W => neq_r (a.getD k z) (a.getD k z) W
      have he : eqB (a.getD k z) (a.getD k z) = true := eqB_true.2 rfl
      rw [he] at hne
      generalize a.getD k z = X at *
      go_wp2_with fail
      go_quiet (fail)
      go_wp2
      go_roundw
      case rel => exact ⟨k + 1, by omega, by go_num, drewN_below HB.out _⟩
      case measure => simp [intOf]; omega
    · clear hb
      go_wp2
      go_ret
      exact ⟨rfl, HB.out⟩
theorem conv_any {w : World} {q : Option Addr} {xs : List Int} (h : RowAt w q xs) (c : Nat) : (convert 22 9 (.slice q xs.length c)).run Tryd.prog w = .ok (.string (strOfNums xs)) w := by
  cases xs with
  | nil =>
    cases q with
    | none => exact run_convert_bytes_nil w 22 5 Tryd.underlying22 Tryd.underlying5 _ _ 9 Tryd.underlying9
    | some a =>
      rw [run_convert_bytes_string w 22 9 5 _ _ c Tryd.underlying22 Tryd.underlying5 Tryd.underlying9]
      show (Conv.bytesToString (.slice (some a) 0 c)).run Tryd.prog w = _
      rw [run_bytesToString w a 0 c [] (by simpa using run_loadCells_list (P := Tryd.prog) w a [] (by simp))]
      rfl
  | cons x xs =>
    obtain ⟨b, off, rfl, _, _⟩ := h.cells 0 (by simp)
    refine run_convert_bytes_arg w 22 5 Tryd.underlying22 Tryd.underlying5 b off _ c (x :: xs) rfl (fun i hi => ?_) 9 Tryd.underlying9
    obtain ⟨b', off', e, _, hc⟩ := h.cells i hi
    injection e with e
    injection e with e1 e2
    subst e1 e2
    exact hc
set_option maxHeartbeats 400000 in
theorem rsame_rows (q1 q2 : Option Addr) (c1 c2 : Nat) (xs : List Int) (w : World) (h1 : RowAt w q1 xs) (h2 : RowAt w q2 xs) :
    Calls Tryd.prog 15 #[.slice q1 xs.length c1, .slice q2 xs.length c2] w fun e w' => e = .returned (.bool true) ∧ w = w' := by
  have e1 := conv_any h1 c1
  have e2 := conv_any h2 c2
  generalize strOfNums xs = S at e1 e2
  generalize xs.length = N at e1 e2
  clear h1 h2
  go_enter Tryd.func15, Tryd.ntmps15
  go_wp2
  go_ret
  exact ⟨by simp, rfl⟩
/-- the tables and the type that the program reads -/
structure Env (w : World) : Prop where
  rows : RowsAt w
  err : ErrT w
  pow : Pow w
theorem Env.below {w w' : World} (h : Env w) (hb : Below w.heap.size w w') : Env w' := ⟨h.rows.below hb, h.err.below hb, h.pow.below hb⟩
theorem Env.alloc {w : World} (h : Env w) (o : Obj) : Env (w.alloc o) := h.below ((Below.refl _ _).alloc (Nat.le_refl _) o)
def xs1 : List Int := [183, 0, 0, 0, 5, 0, 0, 0]
def xs2 : List Int := [24, 0, 0, 0, 0, 0, 0, 0]
def xs3 : List Int := [24, 1, 0, 0, 7, 0, 0, 0, 0, 0, 0, 0, 1, 0, 0, 0]
theorem ok1 : okS (slotOf xs1) 1 = true := by kernel_rfl
theorem ok2 : okS (slotOf xs2) 1 = false := by kernel_rfl
theorem ok3 : okS (slotOf xs3) 2 = true := by kernel_rfl
theorem l1 : decL (slotOf xs1) 1 = [⟨183, 0, 0, 0, 5, 0⟩] := by kernel_rfl
theorem l3 : decL (slotOf xs3) 2 = [⟨24, 1, 0, 0, 7, 4294967303⟩, z] := by kernel_rfl
theorem tx1 : textL ⟨183, 0, 0, 0, 5, 0⟩ = [49, 56, 51, 32, 48, 32, 48, 32, 48, 32, 53] := by
  unfold textL
  rw [if_neg (by decide)]
  have e : digs ⟨183, 0, 0, 0, 5, 0⟩ 5 = [Lib.itoa 183, Lib.itoa 0, Lib.itoa 0, Lib.itoa 0, Lib.itoa 5] := rfl
  rw [e]
  have h183 : Lib.itoa 183 = [49, 56, 51] := by simp [Lib.itoa, Lib.decDigits]
  have h0 : Lib.itoa 0 = [48] := by simp [Lib.itoa, Lib.decDigits]
  have h5 : Lib.itoa 5 = [53] := by simp [Lib.itoa, Lib.decDigits]
  rw [h183, h0, h5]
  decide
theorem hl1 : holeB [⟨24, 1, 0, 0, 7, 4294967303⟩, z] 1 = true := by kernel_rfl
theorem hl0 : holeB [⟨24, 1, 0, 0, 7, 4294967303⟩, z] 0 = false := by kernel_rfl
theorem rowAt_new (w : World) (xs : List Int) (cs : Array Value) (hc : cs = (xs.map (Value.int .u8)).toArray) (hb : ∀ j, j < xs.length → 0 ≤ xs.getD j 0 ∧ xs.getD j 0 < 256) (hs : xs.length ≤ 4096) : RowAt (w.alloc (.cells cs 5)) (some ⟨w.heap.size, 0, none⟩) xs :=
  ⟨by omega, fun j hj => ⟨_, _, rfl, by simp, cell_new w (by subst hc; simp [hj])⟩, hb⟩
def Dec1 (w : World) (e : Ending) (w' : World) (n : Nat) (l : List In) : Prop := ∃ g cap, e = .returned (.tuple #[.slice (some ⟨g, 0, none⟩) n cap, .int .i64 0]) ∧ Below w.heap.size w w' ∧ InsAt w' (some ⟨g, 0, none⟩) l
theorem dec1 (b : Nat) (w : World) (hE : Env w) (h : RowAt w (some ⟨b, 0, none⟩) xs1) : Calls Tryd.prog 9 #[.slice (some ⟨b, 0, none⟩) 8 8] w fun e w' => Dec1 w e w' 1 [⟨183, 0, 0, 0, 5, 0⟩] :=
  (dec_any b 0 8 1 xs1 w rfl (by omega) (by omega) (by omega) hE.rows hE.err h).mono fun e w' hp => by
    rcases hp with ⟨_, g, cap, he, hb, hI⟩ | ⟨hk, _⟩
    · rw [l1] at hI
      exact ⟨g, cap, he, hb, hI⟩
    · rw [ok1] at hk; cases hk
theorem dec2 (b : Nat) (w : World) (hE : Env w) (h : RowAt w (some ⟨b, 0, none⟩) xs2) : Calls Tryd.prog 9 #[.slice (some ⟨b, 0, none⟩) 8 8] w fun e w' => e = .returned (.tuple #[.slice none 0 0, .int .i64 30]) ∧ Below w.heap.size w w' :=
  (dec_any b 0 8 1 xs2 w rfl (by omega) (by omega) (by omega) hE.rows hE.err h).mono fun e w' hp => by
    rcases hp with ⟨hk, _⟩ | ⟨_, he, hb⟩
    · rw [ok2] at hk; cases hk
    · exact ⟨he, hb⟩
theorem dec3 (b : Nat) (w : World) (hE : Env w) (h : RowAt w (some ⟨b, 0, none⟩) xs3) : Calls Tryd.prog 9 #[.slice (some ⟨b, 0, none⟩) 16 16] w fun e w' => Dec1 w e w' 2 [⟨24, 1, 0, 0, 7, 4294967303⟩, z] :=
  (dec_any b 0 16 2 xs3 w rfl (by omega) (by omega) (by omega) hE.rows hE.err h).mono fun e w' hp => by
    rcases hp with ⟨_, g, cap, he, hb, hI⟩ | ⟨hk, _⟩
    · rw [l3] at hI
      exact ⟨g, cap, he, hb, hI⟩
    · rw [ok3] at hk; cases hk
end Go.Proofs.YtlcmaokafklheaaDoor
