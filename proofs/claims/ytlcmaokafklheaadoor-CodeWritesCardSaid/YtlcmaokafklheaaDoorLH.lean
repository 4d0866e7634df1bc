/- What the laws ask at any rate comes true. -/
import Derived.Test.YtlcmaokafklheaaDoorL
namespace Go.Proofs.YtlcmaokafklheaaDoor
open Go.RowKit M

theorem bytes_ok {xs : List Int} (h : (xs.all fun x => decide (0 ≤ x ∧ x < 256)) = true) : ∀ j, j < xs.length → 0 ≤ xs.getD j 0 ∧ xs.getD j 0 < 256 := fun j hj => by
  have := List.all_eq_true.1 h (xs.getD j 0) (by simp [hj])
  simpa using this
theorem text1 (w : World) (hp : Pow w) : Calls Tryd.prog 18 #[.agg #[.int .i64 183, .int .i64 0, .int .i64 0, .int .i64 0, .int .i64 5, .int .u64 0]] w fun e w' => e = .returned (.string ⟨#[49, 56, 51, 32, 48, 32, 48, 32, 48, 32, 53]⟩) ∧ Below w.heap.size w w' :=
  (text_any ⟨183, 0, 0, 0, 5, 0⟩ ⟨by decide, by decide, by decide, by decide, by decide, by decide⟩ w hp).mono fun e w' ⟨he, hb⟩ => ⟨by rw [he, tx1]; rfl, hb⟩
theorem hole31 (g c : Nat) (w : World) (h : InsAt w (some ⟨g, 0, none⟩) [⟨24, 1, 0, 0, 7, 4294967303⟩, z]) : Calls Tryd.prog 16 #[.slice (some ⟨g, 0, none⟩) 2 c, .int .i64 1] w fun e w' => e = .returned (.bool true) ∧ w = w' := by
  have := hole_any (some ⟨g, 0, none⟩) c [⟨24, 1, 0, 0, 7, 4294967303⟩, z] 1 w h
  rw [hl1] at this
  exact this
theorem hole30 (g c : Nat) (w : World) (h : InsAt w (some ⟨g, 0, none⟩) [⟨24, 1, 0, 0, 7, 4294967303⟩, z]) : Calls Tryd.prog 16 #[.slice (some ⟨g, 0, none⟩) 2 c, .int .i64 0] w fun e w' => e = .returned (.bool false) ∧ w = w' := by
  have := hole_any (some ⟨g, 0, none⟩) c [⟨24, 1, 0, 0, 7, 4294967303⟩, z] 0 w h
  rw [hl0] at this
  exact this
set_option maxRecDepth 100000 in
set_option maxHeartbeats 4000000 in
theorem heads_any (w : World) (hE : Env w) :
    Calls Tryd.prog 12 #[] w fun e w' => e = .returned (.bool true) ∧ Below w.heap.size w w' := by
  have E0 := Lib.hid hE
  have R1 := Lib.hid (fun W : World => rowAt_new W xs1 #[.int .u8 183, .int .u8 0, .int .u8 0, .int .u8 0, .int .u8 5, .int .u8 0, .int .u8 0, .int .u8 0] rfl (bytes_ok (by decide)) (by decide))
  have R2 := Lib.hid (fun W : World => rowAt_new W xs2 #[.int .u8 24, .int .u8 0, .int .u8 0, .int .u8 0, .int .u8 0, .int .u8 0, .int .u8 0, .int .u8 0] rfl (bytes_ok (by decide)) (by decide))
  have R3 := Lib.hid (fun W : World => rowAt_new W xs3 #[.int .u8 24, .int .u8 1, .int .u8 0, .int .u8 0, .int .u8 7, .int .u8 0, .int .u8 0, .int .u8 0, .int .u8 0, .int .u8 0, .int .u8 0, .int .u8 0, .int .u8 1, .int .u8 0, .int .u8 0, .int .u8 0] rfl (bytes_ok (by decide)) (by decide))
  clear hE
  go_enter Tryd.func12, Tryd.ntmps12
  have tok0 : True := trivial
  have tok1 : True := trivial
  have tok2 : True := trivial
  go_wp2_with (first
    | (go_at_call 9; have _t := tok0; refine (dec1 _ _ (E0.out.alloc _) (R1.out _)).mono ?_; rintro e w1 ⟨g1, c1, rfl, hb1, hI1⟩; have B1 := Lib.hid (below1 hb1); have E1 := Lib.hid (E0.out.below (below1 hb1)); have I1 := Lib.hid hI1; clear hb1 hI1 tok0)
    | (go_at_call 9; have _t := tok1; refine (dec2 _ _ (E1.out.alloc _) (R2.out _)).mono ?_; rintro e w2 ⟨rfl, hb2⟩; have B2 := Lib.hid (below_next B1.out (below1 hb2)); have E2 := Lib.hid (E1.out.below (below1 hb2)); have I2 := Lib.hid (I1.out.below (below1 hb2)); clear hb2 tok1)
    | (go_at_call 9; refine (dec3 _ _ (E2.out.alloc _) (R3.out _)).mono ?_; rintro e w3 ⟨g3, c3, rfl, hb3, hI3⟩; have B3 := Lib.hid (below_next B2.out (below1 hb3)); have E3 := Lib.hid (E2.out.below (below1 hb3)); have I3 := Lib.hid (I2.out.below (below1 hb3)); have J3 := Lib.hid hI3; clear hb3 hI3
       obtain ⟨b1, o1, hq, hlt, a0, a1, a2, a3, a4, a5⟩ := I3.out.cells 0 (by decide)
       injection hq with hq; injection hq with hq1 hq2; subst hq1 hq2
       obtain ⟨b3, o3, hq, hlt3, k0, k1, k2, k3, k4, k5⟩ := J3.out.cells 0 (by decide)
       injection hq with hq; injection hq with hq1 hq2; subst hq1 hq2)
    | (go_at_call 18; refine (text1 _ E3.out.pow).mono ?_; rintro e w4 ⟨rfl, hb4⟩; have B4 := Lib.hid (below_next B3.out hb4); have J4 := Lib.hid (J3.out.below hb4); have m5 : w4.cell? ⟨g3, 5, none⟩ = some (.int .u64 4294967303) := (hb4.cell (p := ⟨g3, 5, none⟩) hlt3).trans k5; clear hb4)
    | (go_at_call 16; have _t := tok2; refine (hole31 _ _ _ J4.out).mono ?_; rintro e w5 ⟨rfl, rfl⟩; clear tok2)
    | (go_at_call 16; refine (hole30 _ _ _ J4.out).mono ?_; rintro e w5 ⟨rfl, rfl⟩))
  go_ret
  exact ⟨rfl, B4.out⟩
end Go.Proofs.YtlcmaokafklheaaDoor
