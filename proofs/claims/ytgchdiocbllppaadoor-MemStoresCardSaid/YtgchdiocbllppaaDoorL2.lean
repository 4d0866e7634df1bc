/- What the laws ask at any rate comes true. -/
import Derived.Test.YtgchdiocbllppaaDoorL
import Derived.Deep.RegionHeld3
namespace Go.Proofs.YtgchdiocbllppaaDoor
open Go.RowKit M

/-- a world that keeps all of w: the layout, the errors, and the layout's box -/
structure HeadW (s : Nat → Addr) (w w1 : World) : Prop where
  below : Below w.heap.size w w1
  sent : Sent w1 s
  maps : MapsAt w1 (some ⟨w.heap.size, 0, none⟩) 1 msH
  box : w1.cell? ⟨w.heap.size + 1, 0, none⟩ = some (.int .i64 0) ∧ w1.cell? ⟨w.heap.size + 1, 1, none⟩ = some (.bool false) ∧ w1.cell? ⟨w.heap.size + 1, 2, none⟩ = some (.slice (some ⟨w.heap.size, 0, none⟩) 1 1)
  size : w.heap.size + 1 < w1.heap.size
theorem HeadW.next {s : Nat → Addr} {w w1 w2 : World} (h : HeadW s w w1) (hb : Below w1.heap.size w1 w2) : HeadW s w w2 :=
  ⟨below_next h.below hb, h.sent.below hb, h.maps.below hb,
    ⟨(hb.cell (p := ⟨w.heap.size + 1, 0, none⟩) h.size).trans h.box.1, (hb.cell (p := ⟨w.heap.size + 1, 1, none⟩) h.size).trans h.box.2.1, (hb.cell (p := ⟨w.heap.size + 1, 2, none⟩) h.size).trans h.box.2.2⟩, Nat.lt_of_lt_of_le h.size hb.size⟩
theorem HeadW.drew {s : Nat → Addr} {w w1 : World} (h : HeadW s w w1) : HeadW s w w1.drew := h.next (Below.refl _ _).drew
theorem HeadW.first {s : Nat → Addr} {w : World} (h : Sent w s) : HeadW s w ((w.alloc (.cells #[.int .i64 16, .bool true] 23)).alloc (.cells #[.int .i64 0, .bool false, .slice (some ⟨w.heap.size, 0, none⟩) 1 1] 26)) :=
  ⟨((Below.refl _ _).alloc (Nat.le_refl _) _).alloc (by simp) _, h.below (((Below.refl _ _).alloc (Nat.le_refl _) _).alloc (by simp) _), (mapsH w).alloc _,
    ⟨cell_new2 _ _ trivial rfl, cell_new2 _ _ trivial rfl, cell_new2 _ _ trivial rfl⟩, by simp⟩
theorem MemAt.drew {w : World} {mp : Option Addr} {Q : Nat → Option Addr} {C : Nat → Nat} {M : List (List Int)} (h : MemAt w mp Q C M) : MemAt w.drew mp Q C M := h.below (Below.refl _ _).drew

set_option maxRecDepth 100000 in
set_option maxHeartbeats 4000000 in
theorem heads_any (s : Nat → Addr) (w : World) (hs : Sent w s) :
    Calls Tryd.prog 12 #[] w fun e w' => e = .returned (.bool true) ∧ Below w.heap.size w w' := by
  have H0 := Lib.hid (HeadW.first hs)
  clear hs
  go_enter Tryd.func12, Tryd.ntmps12
  go_wp2_with fail
  refine (hFresh _ _ H0.out.maps).mono ?_
  rintro e w1 ⟨mp1, mc1, Q1, C1, rfl, hb1, hM1⟩
  have H1 := Lib.hid (H0.out.next hb1)
  have HM1 := Lib.hid hM1
  obtain ⟨k0, k1, k2⟩ := H1.out.box
  clear hb1 hM1 H0
  go_wp2_with fail
  go_region_held3 (fun W => W.cell? ⟨w.heap.size + 1, 0, none⟩ = some (.int .i64 0) ∧ W.cell? ⟨w.heap.size + 1, 1, none⟩ = some (.bool false) ∧ W.cell? ⟨w.heap.size + 1, 2, none⟩ = some (.slice (some ⟨w.heap.size, 0, none⟩) 1 1)) (go_keep)
    (first
    | (go_at_call 14; refine (address_any _ _ _).mono ?_; rintro e w' ⟨rfl, rfl⟩)
    | (go_at_call 31; refine (hStore s _ _ _ Q1 C1 _ H1.out.drew.sent H1.out.drew.maps HM1.out.drew).mono ?_; rintro e w2 ⟨mp2, mc2, Q2, C2, rfl, hb2, hM2⟩; have H2 := Lib.hid (H1.out.drew.next hb2); have HM2 := Lib.hid hM2; obtain ⟨j0, j1, j2⟩ := H2.out.box; clear hb2 hM2))
  go_wp2_with fail
  clear k0 k1 k2
  go_region_held3 (fun W => W.cell? ⟨w.heap.size + 1, 0, none⟩ = some (.int .i64 0) ∧ W.cell? ⟨w.heap.size + 1, 1, none⟩ = some (.bool false) ∧ W.cell? ⟨w.heap.size + 1, 2, none⟩ = some (.slice (some ⟨w.heap.size, 0, none⟩) 1 1)) (go_keep)
    (first
    | (go_at_call 14; refine (address_any _ _ _).mono ?_; rintro e w' ⟨rfl, rfl⟩)
    | (go_at_call 26; refine (hLoad s _ _ _ Q2 C2 _ H2.out.drew.sent H2.out.drew.maps HM2.out.drew).mono ?_; rintro e w3 ⟨rfl, hb3⟩; have H3 := Lib.hid (H2.out.drew.next hb3); obtain ⟨i0, i1, i2⟩ := H3.out.box; clear hb3))
  go_wp2_with fail
  clear j0 j1 j2
  refine (hFresh2 _).mono ?_
  rintro e w4 ⟨rfl, hb4⟩
  have H4 := Lib.hid (H3.out.next hb4)
  obtain ⟨k0, k1, k2⟩ := H4.out.box
  clear hb4 i0 i1 i2
  go_wp2_with fail
  have tok1 : True := trivial
  go_region_held3 (fun W => W.cell? ⟨w.heap.size + 1, 0, none⟩ = some (.int .i64 0) ∧ W.cell? ⟨w.heap.size + 1, 1, none⟩ = some (.bool false) ∧ W.cell? ⟨w.heap.size + 1, 2, none⟩ = some (.slice (some ⟨w.heap.size, 0, none⟩) 1 1)) (go_keep)
    (first
    | (go_at_call 14; refine (address_any _ _ _).mono ?_; rintro e w' ⟨rfl, rfl⟩)
    | (go_at_call 15; have _t := tok1; refine (hAcc1 s _ _ H4.out.drew.sent H4.out.drew.maps).mono ?_; rintro e w5 ⟨rfl, hb5⟩; have H5 := Lib.hid (H4.out.drew.next hb5); obtain ⟨i0, i1, i2⟩ := H5.out.box; clear hb5 tok1)
    | (go_at_call 15; refine (hAcc2 s _ _ H5.out.sent H5.out.maps).mono ?_; rintro e w6 ⟨rfl, hb6⟩; have H6 := Lib.hid (H5.out.next hb6); obtain ⟨l0, l1, l2⟩ := H6.out.box; clear hb6))
  go_wp2_with fail
  go_ret
  exact ⟨rfl, H6.out.below⟩
end Go.Proofs.YtgchdiocbllppaaDoor
