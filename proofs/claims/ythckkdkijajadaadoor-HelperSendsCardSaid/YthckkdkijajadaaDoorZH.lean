/- What the laws ask at any rate comes true. -/
import Derived.Test.YthckkdkijajadaaDoorZG
import Derived.Deep.DeepCutAuto
namespace Go.Proofs.YthckkdkijajadaaDoor
open Go.RowKit M

/-- behind the second call of Do -/
def Rel4 (s s' : Nat → Addr) (w u : World) (mp : Option Addr) (Q : Nat → Option Addr) (C : Nat → Nat) (b : Nat) (cs : List Value) (v : Value) (W : World) : Prop :=
  v = .int .i64 50 ∧ HdW s s' w u W mp Q C ∧ Box W b cs
/-- behind the third -/
def Rel5 (s s' : Nat → Addr) (w u : World) (mp : Option Addr) (Q : Nat → Option Addr) (C : Nat → Nat) (b : Nat) (cs : List Value) (x y z : Value) (W : World) : Prop :=
  x = .int .u64 513 ∧ z = .int .i64 0 ∧ (∃ mp6 mc6 Q6 C6, y = .slice mp6 2 mc6 ∧ MemAt W mp6 Q6 C6 nH1) ∧ HdW s s' w u W mp Q C ∧ Box W b cs
theorem rel4_alloc {s s' : Nat → Addr} {w u W : World} {mp : Option Addr} {Q : Nat → Option Addr} {C : Nat → Nat} {b : Nat} {cs : List Value} (h : HdW s s' w u W mp Q C) (hb : Box W b cs) (o : Obj) : Rel4 s s' w u mp Q C b cs (.int .i64 50) (W.alloc o) :=
  ⟨rfl, h.alloc o, hb.alloc o⟩
theorem rel4_set {s s' : Nat → Addr} {w u W : World} {mp : Option Addr} {Q : Nat → Option Addr} {C : Nat → Nat} {b : Nat} {cs : List Value} (h : HdW s s' w u W mp Q C) (hb : Box W b cs) {T : Nat} (hT : u.heap.size ≤ T) (hn : b ≠ T) (x y z : Value) : Rel4 s s' w u mp Q C b cs (.int .i64 50) (((W.setCell ⟨T, 0, none⟩ x).setCell ⟨T, 1, none⟩ y).setCell ⟨T, 2, none⟩ z) :=
  ⟨rfl, h.set3 hT x y z, hb.set3o (fun e => hn e.symm) x y z⟩
theorem rel5_alloc {s s' : Nat → Addr} {w u W : World} {mp : Option Addr} {Q : Nat → Option Addr} {C : Nat → Nat} {b : Nat} {cs : List Value} {mp6 : Option Addr} {mc6 : Nat} {Q6 : Nat → Option Addr} {C6 : Nat → Nat} (h : HdW s s' w u W mp Q C) (hb : Box W b cs) (hm : MemAt W mp6 Q6 C6 nH1) (o : Obj) : Rel5 s s' w u mp Q C b cs (.int .u64 513) (.slice mp6 2 mc6) (.int .i64 0) (W.alloc o) :=
  ⟨rfl, rfl, ⟨mp6, mc6, Q6, C6, rfl, hm.alloc o⟩, h.alloc o, hb.alloc o⟩
theorem rel5_set {s s' : Nat → Addr} {w u W : World} {mp : Option Addr} {Q : Nat → Option Addr} {C : Nat → Nat} {b : Nat} {cs : List Value} {mp6 : Option Addr} {mc6 : Nat} {Q6 : Nat → Option Addr} {C6 : Nat → Nat} (h : HdW s s' w u W mp Q C) (hb : Box W b cs) (hm : MemAt W mp6 Q6 C6 nH1) {T : Nat} (hB : Box W T [.int .i64 0, .slice none 0 0, .slice none 0 0]) (hT : u.heap.size ≤ T) (hn : b ≠ T) (x y z : Value) : Rel5 s s' w u mp Q C b cs (.int .u64 513) (.slice mp6 2 mc6) (.int .i64 0) (((W.setCell ⟨T, 0, none⟩ x).setCell ⟨T, 1, none⟩ y).setCell ⟨T, 2, none⟩ z) :=
  ⟨rfl, rfl, ⟨mp6, mc6, Q6, C6, rfl, hm.set3v hB hS1 x y z⟩, h.set3 hT x y z, hb.set3o (fun e => hn e.symm) x y z⟩
set_option maxRecDepth 100000 in
set_option maxHeartbeats 8000000 in
theorem heads_any (s s' : Nat → Addr) (w : World) (hs : HSent w s) (hS : Sent w s') :
    Calls Tryd.prog 10 #[] w fun e w' => e = .returned (.bool true) ∧ Below w.heap.size w w' := by
  have HS := Lib.hid (And.intro hs hS)
  have HFR := Lib.hid (fun W (hb : Below w.heap.size w W) => rfreshP s' 8 false none 0 0 [] W (hS.below hb) (maps_nil W))
  unfold FPost at HFR
  rw [hF0, hL0, show chk (okL 8 []) = 0 from by decide +kernel] at HFR
  clear hs hS
  have HD1 := Lib.hid (fun u W mc mp Q C (h : HdW s s' w u W mp Q C) => hdo1 s s' mc h)
  have HD2 := Lib.hid (fun u W mc mp Q C (h : HdW s s' w u W mp Q C) => hdo2 s s' mc h)
  have HD3 := Lib.hid (fun u W mc mp Q C (h : HdW s s' w u W mp Q C) => hdo3 s s' mc h)
  unfold DoPost at HD1 HD2 HD3
  rw [hL1] at HD3
  rw [hL0] at HD1
  unfold aH1 at HD2
  unfold aH2 at HD3
  have HTB := Lib.hid (fun W => table_any 3 W (by decide))
  unfold TabPost at HTB
  rw [kinds_length] at HTB
  rw [show isH 3 = true from rfl, show cnt 3 = 2 from rfl, show nmB 3 = ⟨#[115, 101, 110, 100]⟩ from rfl] at HTB
  go_enter Tryd.func10, Tryd.ntmps10
  go_wp2_with (first
    | (go_at_call 8; refine (HFR.out _ ((Below.refl _ _).alloc (Nat.le_refl _) _)).mono ?_; rintro e w1 ⟨mp, mc, Q, C, rfl, hm1, hb1⟩; have H1 : Hid (HdW s s' w w1 w1 mp Q C) := ⟨below1 hb1, HS.out.1.below (below1 hb1), HS.out.2.below (below1 hb1), (Box.new w [.int .i64 8, .bool false, .slice none 0 0] 27 rfl).next hb1, hm1, Below.refl _ _⟩; have l0 := H1.out.lay.cell 0 _ rfl; have l1 := H1.out.lay.cell 1 _ rfl; have l2 := H1.out.lay.cell 2 _ rfl; clear hb1 hm1)
    | (go_at_call 9; refine (HD1.out w1 _ mc mp Q C ((H1.out.alloc _).alloc _) _ _ ((Box.new w1 [.int .u64 1, .int .u64 2, .int .u64 3] 22 rfl).alloc _) (Box.new (w1.alloc (.cells #[.int .u64 1, .int .u64 2, .int .u64 3] 22)) [.int .u64 4] 22 (by simp))).mono ?_; rintro e w2 ⟨mp2, mc2, Q2, C2, tq2, tc2, dq2, dc2, rfl, hb2, _⟩; have H2 := Lib.hid (((H1.out.alloc _).alloc _).next hb2); have HB2 := Lib.hid (Box.new w2 [.int .i64 5, .slice tq2 3 tc2, .slice dq2 0 dc2] 35 rfl); have H3 := Lib.hid (H2.out.alloc (.cells [.int .i64 5, .slice tq2 3 tc2, .slice dq2 0 dc2].toArray 35)); have k0 := H3.out.lay.cell 0 _ rfl; have k1 := H3.out.lay.cell 1 _ rfl; have k2 := H3.out.lay.cell 2 _ rfl; clear hb2))
  clear l0 l1 l2
  change Hid (HdW s s' w w1 (w2.alloc (.cells #[.int .i64 5, .slice tq2 3 tc2, .slice dq2 0 dc2] 35)) mp Q C) at H3
  change Hid (Box (w2.alloc (.cells #[.int .i64 5, .slice tq2 3 tc2, .slice dq2 0 dc2] 35)) w2.heap.size [.int .i64 5, .slice tq2 3 tc2, .slice dq2 0 dc2]) at HB2
  have z2 : w2.heap.size < (w2.alloc (.cells #[.int .i64 5, .slice tq2 3 tc2, .slice dq2 0 dc2] 35)).heap.size := by simp
  generalize w2.alloc (.cells #[.int .i64 5, .slice tq2 3 tc2, .slice dq2 0 dc2] 35) = W3 at *
  have zd3 : ∀ o, (W3.alloc o).heap.size = W3.heap.size + 1 := fun o => by simp
  have zh3 := H3.out.blw.size
  go_cut [11] (fun s11 wx => Rel4 s s' w w1 mp Q C w2.heap.size [.int .i64 5, .slice tq2 3 tc2, .slice dq2 0 dc2] s11 wx)
  case first =>
    go_region_held3 (fun W => W.cell? ⟨w.heap.size, 0, none⟩ = some (.int .i64 8) ∧ W.cell? ⟨w.heap.size, 1, none⟩ = some (.bool false) ∧ W.cell? ⟨w.heap.size, 2, none⟩ = some (.slice none 0 0)) (first | go_keep | with_reducible exact K4 | with_reducible exact K5)
      (first
      | (go_at_call 32; refine (raddress_any _ _ _).mono ?_; rintro e w3 ⟨rfl, rfl⟩)
      | (go_at_call 9; refine (HD2.out w1 _ mc mp Q C ?hd _ ?bx).mono ?_; (case hd => first | with_reducible exact (H3.out.alloc _).drew | with_reducible exact ((H3.out.alloc _).alloc _).drew); (case bx => first | with_reducible exact (Box.new W3 _ _ rfl).drew | with_reducible exact ((Box.new W3 _ _ rfl).alloc _).drew | with_reducible exact (Box.new _ _ _ (zd3 _)).drew); rintro e w4 ⟨mp4, mc4, Q4, C4, tq4, tc4, dq4, dc4, rfl, hb4, _⟩; obtain ⟨H4, HB4⟩ : Hid (HdW s s' w w1 w4 mp Q C) ∧ Hid (Box w4 w2.heap.size [.int .i64 5, .slice tq2 3 tc2, .slice dq2 0 dc2]) := (by first | exact ⟨(H3.out.alloc _).drew.next hb4, (HB2.out.alloc _).drew.next hb4⟩ | exact ⟨((H3.out.alloc _).alloc _).drew.next hb4, ((HB2.out.alloc _).alloc _).drew.next hb4⟩); have m0 := H4.out.lay.cell 0 _ rfl; have m1 := H4.out.lay.cell 1 _ rfl; have m2 := H4.out.lay.cell 2 _ rfl; have hn4 : W3.heap.size + 1 ≠ w.heap.size := by {have := H3.out.lay.lt; omega}; have hn5 : W3.heap.size ≠ w.heap.size := by {have := H3.out.lay.lt; omega}; have K4 := And.intro (set3_other hn4 m0 (.int .i64 0) (.slice tq4 0 tc4) (.slice dq4 0 dc4)) (And.intro (set3_other hn4 m1 (.int .i64 0) (.slice tq4 0 tc4) (.slice dq4 0 dc4)) (set3_other hn4 m2 (.int .i64 0) (.slice tq4 0 tc4) (.slice dq4 0 dc4))); have K5 := And.intro (set3_other hn5 m0 (.int .i64 0) (.slice tq4 0 tc4) (.slice dq4 0 dc4)) (And.intro (set3_other hn5 m1 (.int .i64 0) (.slice tq4 0 tc4) (.slice dq4 0 dc4)) (set3_other hn5 m2 (.int .i64 0) (.slice tq4 0 tc4) (.slice dq4 0 dc4))); (first | (have BT : Box w4 (W3.heap.size + 1) [.int .i64 0, .slice none 0 0, .slice none 0 0] := (Box.new (W3.alloc (.cells #[.int .u64 (addrOf 1 0), .int .u64 8] 22)) [.int .i64 0, .slice none 0 0, .slice none 0 0] 35 (zd3 _)).drew.next hb4; have n0 := BT.cell 0 _ rfl; have n1 := BT.cell 1 _ rfl; have n2 := BT.cell 2 _ rfl; have nz := BT.frozen; clear BT) | (have BT : Box w4 W3.heap.size [.int .i64 0, .slice none 0 0, .slice none 0 0] := ((Box.new W3 [.int .i64 0, .slice none 0 0, .slice none 0 0] 35 rfl).alloc (.cells #[.int .u64 (addrOf 1 0), .int .u64 8] 22)).drew.next hb4; have n0 := BT.cell 0 _ rfl; have n1 := BT.cell 1 _ rfl; have n2 := BT.cell 2 _ rfl; have nz := BT.frozen; clear BT) | skip); clear hb4))
    all_goals (go_wp2_with fail; go_meet)
    all_goals first
      | exact rel4_alloc H4.out HB4.out _
      | exact rel4_set H4.out HB4.out (by omega) (by omega) _ _ _
  case rest =>
    obtain ⟨rfl, H5, HB5⟩ := hcut
    clear H1 H3 HB2 k0 k1 k2 z2 zd3 zh3
    generalize wc = W5 at *
    have k0 := H5.lay.cell 0 _ rfl
    have k1 := H5.lay.cell 1 _ rfl
    have k2 := H5.lay.cell 2 _ rfl
    have KA : ∀ W, HdW s s' w w1 W mp Q C → W.cell? ⟨w.heap.size, 0, none⟩ = some (.int .i64 8) ∧ W.cell? ⟨w.heap.size, 1, none⟩ = some (.bool false) ∧ W.cell? ⟨w.heap.size, 2, none⟩ = some (.slice none 0 0) := fun W h => ⟨h.lay.cell 0 _ rfl, h.lay.cell 1 _ rfl, h.lay.cell 2 _ rfl⟩
    have z51 : ∀ o, (W5.alloc o).heap.size = W5.heap.size + 1 := fun o => by simp
    have z52 : ∀ o o', ((W5.alloc o).alloc o').heap.size = W5.heap.size + 1 + 1 := fun o o' => by simp
    have zl : w1.heap.size ≤ W5.heap.size := H5.blw.size
    have zb : w2.heap.size < W5.heap.size := HB5.lt
    go_wp2_with fail
    go_cut [12, 13, 15] (fun s12 s13 s15 wx => Rel5 s s' w w1 mp Q C w2.heap.size [.int .i64 5, .slice tq2 3 tc2, .slice dq2 0 dc2] s12 s13 s15 wx)
    case first =>
      go_region_held3 (fun W => W.cell? ⟨w.heap.size, 0, none⟩ = some (.int .i64 8) ∧ W.cell? ⟨w.heap.size, 1, none⟩ = some (.bool false) ∧ W.cell? ⟨w.heap.size, 2, none⟩ = some (.slice none 0 0)) (first | with_reducible exact KA _ (((H5.alloc _).alloc _).alloc _).drew | with_reducible exact KA _ (((H5.alloc _).alloc _).alloc _) | go_keep | with_reducible exact K6)
        (first
        | (go_at_call 32; refine (raddress_any _ _ _).mono ?_; rintro e w3 ⟨rfl, rfl⟩)
        | (go_at_call 9; refine (HD3.out w1 _ mc mp Q C ?hd _ _ ?bx ?bz).mono ?_; (case hd => first | with_reducible exact ((H5.alloc _).alloc _).drew | with_reducible exact (((H5.alloc _).alloc _).alloc _).drew); (case bx => first | with_reducible exact ((Box.new W5 _ _ rfl).alloc _).drew | with_reducible exact (Box.new (W5.alloc _) _ _ (z51 _)).drew | with_reducible exact (((Box.new W5 _ _ rfl).alloc _).alloc _).drew | with_reducible exact ((Box.new (W5.alloc _) _ _ (z51 _)).alloc _).drew | with_reducible exact (Box.new ((W5.alloc _).alloc _) _ _ (z52 _ _)).drew); (case bz => first | with_reducible exact ((Box.new W5 _ _ rfl).alloc _).drew | with_reducible exact (Box.new (W5.alloc _) _ _ (z51 _)).drew | with_reducible exact (((Box.new W5 _ _ rfl).alloc _).alloc _).drew | with_reducible exact ((Box.new (W5.alloc _) _ _ (z51 _)).alloc _).drew | with_reducible exact (Box.new ((W5.alloc _).alloc _) _ _ (z52 _ _)).drew); rintro e w6 ⟨mp6, mc6, Q6, C6, tq6, tc6, dq6, dc6, rfl, hb6, hm6, _⟩; obtain ⟨H6, HB6⟩ : Hid (HdW s s' w w1 w6 mp Q C) ∧ Hid (Box w6 w2.heap.size [.int .i64 5, .slice tq2 3 tc2, .slice dq2 0 dc2]) := (by first | exact ⟨((H5.alloc _).alloc _).drew.next hb6, ((HB5.alloc _).alloc _).drew.next hb6⟩ | exact ⟨(((H5.alloc _).alloc _).alloc _).drew.next hb6, (((HB5.alloc _).alloc _).alloc _).drew.next hb6⟩); have m0 := H6.out.lay.cell 0 _ rfl; have m1 := H6.out.lay.cell 1 _ rfl; have m2 := H6.out.lay.cell 2 _ rfl; have HM6 := Lib.hid hm6; (first | (have BT : Box w6 W5.heap.size [.int .i64 0, .slice none 0 0, .slice none 0 0] := (((Box.new W5 [.int .i64 0, .slice none 0 0, .slice none 0 0] 35 rfl).alloc (.cells #[.int .u64 (addrOf 2 0), .int .u64 2] 22)).alloc (.cells #[.int .u64 513] 22)).drew.next hb6; have n0 := BT.cell 0 _ rfl; have n1 := BT.cell 1 _ rfl; have n2 := BT.cell 2 _ rfl; have nz := BT.frozen; have HBT := Lib.hid BT; have hnT : W5.heap.size ≠ w.heap.size := by {have := H5.lay.lt; omega}; have K6 := And.intro (set3_other hnT m0 (.int .i64 4) (.slice tq6 2 tc6) (.slice dq6 0 dc6)) (And.intro (set3_other hnT m1 (.int .i64 4) (.slice tq6 2 tc6) (.slice dq6 0 dc6)) (set3_other hnT m2 (.int .i64 4) (.slice tq6 2 tc6) (.slice dq6 0 dc6))); clear BT) | (have BT : Box w6 W5.heap.size [.int .i64 0, .slice none 0 0, .slice none 0 0] := (((Box.new W5 [.int .i64 0, .slice none 0 0, .slice none 0 0] 35 rfl).alloc (.cells #[.int .u64 513] 22)).alloc (.cells #[.int .u64 (addrOf 2 0), .int .u64 2] 22)).drew.next hb6; have n0 := BT.cell 0 _ rfl; have n1 := BT.cell 1 _ rfl; have n2 := BT.cell 2 _ rfl; have nz := BT.frozen; have HBT := Lib.hid BT; have hnT : W5.heap.size ≠ w.heap.size := by {have := H5.lay.lt; omega}; have K6 := And.intro (set3_other hnT m0 (.int .i64 4) (.slice tq6 2 tc6) (.slice dq6 0 dc6)) (And.intro (set3_other hnT m1 (.int .i64 4) (.slice tq6 2 tc6) (.slice dq6 0 dc6)) (set3_other hnT m2 (.int .i64 4) (.slice tq6 2 tc6) (.slice dq6 0 dc6))); clear BT) | (have BT : Box w6 (W5.heap.size + 1) [.int .i64 0, .slice none 0 0, .slice none 0 0] := ((Box.new (W5.alloc (.cells #[.int .u64 (addrOf 2 0), .int .u64 2] 22)) [.int .i64 0, .slice none 0 0, .slice none 0 0] 35 (z51 _)).alloc (.cells #[.int .u64 513] 22)).drew.next hb6; have n0 := BT.cell 0 _ rfl; have n1 := BT.cell 1 _ rfl; have n2 := BT.cell 2 _ rfl; have nz := BT.frozen; have HBT := Lib.hid BT; have hnT : (W5.heap.size + 1) ≠ w.heap.size := by {have := H5.lay.lt; omega}; have K6 := And.intro (set3_other hnT m0 (.int .i64 4) (.slice tq6 2 tc6) (.slice dq6 0 dc6)) (And.intro (set3_other hnT m1 (.int .i64 4) (.slice tq6 2 tc6) (.slice dq6 0 dc6)) (set3_other hnT m2 (.int .i64 4) (.slice tq6 2 tc6) (.slice dq6 0 dc6))); clear BT) | (have BT : Box w6 (W5.heap.size + 1) [.int .i64 0, .slice none 0 0, .slice none 0 0] := ((Box.new (W5.alloc (.cells #[.int .u64 513] 22)) [.int .i64 0, .slice none 0 0, .slice none 0 0] 35 (z51 _)).alloc (.cells #[.int .u64 (addrOf 2 0), .int .u64 2] 22)).drew.next hb6; have n0 := BT.cell 0 _ rfl; have n1 := BT.cell 1 _ rfl; have n2 := BT.cell 2 _ rfl; have nz := BT.frozen; have HBT := Lib.hid BT; have hnT : (W5.heap.size + 1) ≠ w.heap.size := by {have := H5.lay.lt; omega}; have K6 := And.intro (set3_other hnT m0 (.int .i64 4) (.slice tq6 2 tc6) (.slice dq6 0 dc6)) (And.intro (set3_other hnT m1 (.int .i64 4) (.slice tq6 2 tc6) (.slice dq6 0 dc6)) (set3_other hnT m2 (.int .i64 4) (.slice tq6 2 tc6) (.slice dq6 0 dc6))); clear BT) | (have BT : Box w6 (W5.heap.size + 1 + 1) [.int .i64 0, .slice none 0 0, .slice none 0 0] := (Box.new ((W5.alloc (.cells #[.int .u64 (addrOf 2 0), .int .u64 2] 22)).alloc (.cells #[.int .u64 513] 22)) [.int .i64 0, .slice none 0 0, .slice none 0 0] 35 (z52 _ _)).drew.next hb6; have n0 := BT.cell 0 _ rfl; have n1 := BT.cell 1 _ rfl; have n2 := BT.cell 2 _ rfl; have nz := BT.frozen; have HBT := Lib.hid BT; have hnT : (W5.heap.size + 1 + 1) ≠ w.heap.size := by {have := H5.lay.lt; omega}; have K6 := And.intro (set3_other hnT m0 (.int .i64 4) (.slice tq6 2 tc6) (.slice dq6 0 dc6)) (And.intro (set3_other hnT m1 (.int .i64 4) (.slice tq6 2 tc6) (.slice dq6 0 dc6)) (set3_other hnT m2 (.int .i64 4) (.slice tq6 2 tc6) (.slice dq6 0 dc6))); clear BT) | (have BT : Box w6 (W5.heap.size + 1 + 1) [.int .i64 0, .slice none 0 0, .slice none 0 0] := (Box.new ((W5.alloc (.cells #[.int .u64 513] 22)).alloc (.cells #[.int .u64 (addrOf 2 0), .int .u64 2] 22)) [.int .i64 0, .slice none 0 0, .slice none 0 0] 35 (z52 _ _)).drew.next hb6; have n0 := BT.cell 0 _ rfl; have n1 := BT.cell 1 _ rfl; have n2 := BT.cell 2 _ rfl; have nz := BT.frozen; have HBT := Lib.hid BT; have hnT : (W5.heap.size + 1 + 1) ≠ w.heap.size := by {have := H5.lay.lt; omega}; have K6 := And.intro (set3_other hnT m0 (.int .i64 4) (.slice tq6 2 tc6) (.slice dq6 0 dc6)) (And.intro (set3_other hnT m1 (.int .i64 4) (.slice tq6 2 tc6) (.slice dq6 0 dc6)) (set3_other hnT m2 (.int .i64 4) (.slice tq6 2 tc6) (.slice dq6 0 dc6))); clear BT) | skip); clear hb6 hm6))
      all_goals (go_wp2_with fail; go_meet)
      all_goals first
        | exact rel5_alloc H6.out HB6.out HM6.out _
        | exact rel5_set H6.out HB6.out HM6.out HBT.out (by omega) (by omega) _ _ _
    case rest =>
      obtain ⟨rfl, rfl, ⟨mp7, mc7, Q7, C7, rfl, HM7⟩, H7, HB7⟩ := hcut
      clear H5 HB5 k0 k1 k2 KA z51 z52 zl zb HD1 HD2 HD3 HFR
      obtain ⟨b7, o7, rfl, hb7, hc7, _⟩ := HM7.cells 1 (by rw [hL1]; decide)
      obtain ⟨b8, o8, hq8, hb8, hc8⟩ := HM7.rows 1 1 (by rw [hL1]; decide) (by rw [hR1.1]; decide)
      rw [hq8, hR1.1] at hc7
      rw [hR1.2] at hc8
      generalize C7 1 = c7 at hc7
      have H7' := Lib.hid H7
      have HB7' := Lib.hid HB7
      have HC7 := Lib.hid hc7
      have HC8 := Lib.hid hc8
      have HL7 := Lib.hid hb7
      have HL8 := Lib.hid hb8
      clear H7 HB7 HM7 hq8 hc7 hc8 hb7 hb8
      go_wp2_with (first
        | (go_at_call 11; refine (HTB.out wc).mono ?_; rintro e w8 ⟨kp, kc, rfl, hb, _⟩; have H8 := Lib.hid (H7'.out.next hb); have f1 := fun o => ((HB7'.out.next hb).alloc o).cell 1 _ rfl; have f2 := fun o => ((hb.alloc hb.size o).cell (p := ⟨b7, o7 + 1, none⟩) HL7.out).trans HC7.out; have f3 := fun o => ((hb.alloc hb.size o).cell (p := ⟨b8, o8 + 1, none⟩) HL8.out).trans HC8.out; clear hb))
      go_ret
      exact ⟨rfl, (H8.out.alloc _).below⟩
end Go.Proofs.YthckkdkijajadaaDoor
