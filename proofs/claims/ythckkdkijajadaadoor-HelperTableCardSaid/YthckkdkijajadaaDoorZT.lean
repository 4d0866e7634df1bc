/- HelperTable: which helpers there are, and which bytes they read and write. -/
import Derived.Test.YthckkdkijajadaaDoorZH
namespace Go.Proofs.YthckkdkijajadaaDoor
open Go.RowKit M

set_option maxRecDepth 100000 in
set_option maxHeartbeats 8000000 in
theorem tables_any (s s' : Nat → Addr) (n : Int) (q : Option Addr) (A : List Int) (cc : Nat) (w : World) (hs : HSent w s) (hS : Sent w s') (hn : (Lit.int .i64 n).wf = true) (hA : WordsAt w q A) (hcc : A.length ≤ cc) :
    Calls Tryd.prog 4 #[.int .i64 n, .slice q A.length cc] w fun e w' => e = .returned (.bool true) ∧ Below w.heap.size w w' := by
  have HS := Lib.hid (And.intro hs hS)
  have HA := Lib.hid hA
  have HT := Lib.hid (fun W => table_any n W hn)
  have HR := Lib.hid (fun W => rtable_any n W)
  have HSP := Lib.hid (fun W (hb : Below w.heap.size w W) => spans_any s n q A cc W (hs.below hb) (hA.below hb) hcc hn)
  have HRS := Lib.hid (fun W (hb : Below w.heap.size w W) => rspans_any n q A cc W (hA.below hb))
  have HK := Lib.hid (fun q1 q2 c1 c2 => rkinds_any q1 q2 c1 c2 (kinds n))
  unfold TabPost at HT HR
  unfold SpPost at HSP HRS
  have HB0 := Lib.hid (Below.refl w.heap.size w)
  generalize (kinds n) = ks at *
  generalize nmB n = N at *
  generalize most n = mo at *
  generalize isH n = ih at *
  generalize spAt n A 3 = x1 at *
  generalize spN n A 3 = x2 at *
  generalize spAt n A 4 = x3 at *
  generalize spN n A 4 = x4 at *
  generalize spOk n A = ok at *
  obtain ⟨K, hK⟩ : ∃ K, ks.length = K := ⟨_, rfl⟩
  obtain ⟨L, hL⟩ : ∃ L, A.length = L := ⟨_, rfl⟩
  rw [hK] at HT HR HK
  rw [hL] at HSP HRS
  rw [hL]
  clear hs hS hA hK hL hn hcc
  go_enter Tryd.func4, Tryd.ntmps4
  go_wp2_with (first
    | (go_at_call 11; refine (HT.out _).mono ?_; rintro e w1 ⟨kp, kc, rfl, hb, hk⟩; have H1 := Lib.hid (below_next HB0.out hb); have HK1 := Lib.hid hk; have HX1 := Lib.hid (Box.new w1 [.string N, .slice kp K kc, .int .i64 mo] 43 rfl); clear hb hk)
    | (go_at_call 12; refine (HR.out _).mono ?_; rintro e w2 ⟨kp2, kc2, rfl, hb, hk⟩; have H2 := Lib.hid (below_next (H1.out.alloc (H1.out.size) (.cells #[.string N, .slice kp K kc, .int .i64 mo] 43)) hb); have HK2 := Lib.hid ((HK1.out.below ((Below.refl _ _).alloc (Nat.le_refl _) (.cells #[.string N, .slice kp K kc, .int .i64 mo] 43))).below hb); have HX2 := Lib.hid (HX1.out.next hb); have HL2 := Lib.hid hk; have HY2 := Lib.hid (Box.new w2 [.string N, .slice kp2 K kc2, .int .i64 mo] 43 rfl); clear hb hk)
    | (go_at_call 13; refine (HSP.out _ (H2.out.alloc H2.out.size _)).mono ?_; rintro e w3 ⟨rfl, hb⟩; have H3 := Lib.hid (below_next (H2.out.alloc H2.out.size (.cells #[.string N, .slice kp2 K kc2, .int .i64 mo] 43)) hb); have HK3 := Lib.hid ((HK2.out.below ((Below.refl _ _).alloc (Nat.le_refl _) (.cells #[.string N, .slice kp2 K kc2, .int .i64 mo] 43))).below hb); have HL3 := Lib.hid ((HL2.out.below ((Below.refl _ _).alloc (Nat.le_refl _) (.cells #[.string N, .slice kp2 K kc2, .int .i64 mo] 43))).below hb); have HX3 := Lib.hid ((HX2.out.alloc (.cells #[.string N, .slice kp2 K kc2, .int .i64 mo] 43)).next hb); have HY3 := Lib.hid (HY2.out.next hb); have HZ3 := Lib.hid ((Box.new w3 [.int .u64 x1, .int .i64 x2] 47 rfl).alloc (.cells #[.int .u64 x3, .int .i64 x4] 47)); have HV3 := Lib.hid (Box.new (w3.alloc (.cells #[.int .u64 x1, .int .i64 x2] 47)) [.int .u64 x3, .int .i64 x4] 47 (b := w3.heap.size + 1) (by simp)); clear hb)
    | (go_at_call 14; refine (HRS.out _ ((H3.out.alloc H3.out.size _).alloc (by have := H3.out.size; simp; omega) _)).mono ?_; rintro e w4 ⟨rfl, hb⟩; have H4 := Lib.hid (below_next ((H3.out.alloc H3.out.size (.cells #[.int .u64 x1, .int .i64 x2] 47)).alloc (by have := H3.out.size; simp; omega) (.cells #[.int .u64 x3, .int .i64 x4] 47)) hb); have HK4 := Lib.hid ((HK3.out.below (((Below.refl _ _).alloc (Nat.le_refl _) (.cells #[.int .u64 x1, .int .i64 x2] 47)).alloc (by simp) (.cells #[.int .u64 x3, .int .i64 x4] 47))).below hb); have HL4 := Lib.hid ((HL3.out.below (((Below.refl _ _).alloc (Nat.le_refl _) (.cells #[.int .u64 x1, .int .i64 x2] 47)).alloc (by simp) (.cells #[.int .u64 x3, .int .i64 x4] 47))).below hb); have HX4 := Lib.hid (((HX3.out.alloc (.cells #[.int .u64 x1, .int .i64 x2] 47)).alloc (.cells #[.int .u64 x3, .int .i64 x4] 47)).next hb); have HY4 := Lib.hid (((HY3.out.alloc (.cells #[.int .u64 x1, .int .i64 x2] 47)).alloc (.cells #[.int .u64 x3, .int .i64 x4] 47)).next hb); have HZ4 := Lib.hid (HZ3.out.next hb); have HV4 := Lib.hid (HV3.out.next hb); have HP4 := Lib.hid ((Box.new w4 [.int .u64 x1, .int .i64 x2] 47 rfl).alloc (.cells #[.int .u64 x3, .int .i64 x4] 47)); have HQ4 := Lib.hid (Box.new (w4.alloc (.cells #[.int .u64 x1, .int .i64 x2] 47)) [.int .u64 x3, .int .i64 x4] 47 (b := w4.heap.size + 1) (by simp)); have a0 := fun o o' => ((HX4.out.alloc o).alloc o').cell 0 _ rfl; have a1 := fun o o' => ((HX4.out.alloc o).alloc o').cell 1 _ rfl; have a2 := fun o o' => ((HX4.out.alloc o).alloc o').cell 2 _ rfl; have b0 := fun o o' => ((HY4.out.alloc o).alloc o').cell 0 _ rfl; have b1 := fun o o' => ((HY4.out.alloc o).alloc o').cell 1 _ rfl; have b2 := fun o o' => ((HY4.out.alloc o).alloc o').cell 2 _ rfl; clear hb)
    | (go_at_call 15; refine (HK.out _ _ _ _ _ (HK4.out.below (((Below.refl _ _).alloc (Nat.le_refl _) (.cells #[.int .u64 x1, .int .i64 x2] 47)).alloc (by simp) (.cells #[.int .u64 x3, .int .i64 x4] 47))) (HL4.out.below (((Below.refl _ _).alloc (Nat.le_refl _) (.cells #[.int .u64 x1, .int .i64 x2] 47)).alloc (by simp) (.cells #[.int .u64 x3, .int .i64 x4] 47)))).mono ?_; rintro e w5 ⟨rfl, hb⟩; have H5 := Lib.hid (below_next ((H4.out.alloc H4.out.size (.cells #[.int .u64 x1, .int .i64 x2] 47)).alloc (by have := H4.out.size; simp; omega) (.cells #[.int .u64 x3, .int .i64 x4] 47)) hb); have c2 := (((HX4.out.alloc (.cells #[.int .u64 x1, .int .i64 x2] 47)).alloc (.cells #[.int .u64 x3, .int .i64 x4] 47)).next hb).cell 2 _ rfl; have d2 := (((HY4.out.alloc (.cells #[.int .u64 x1, .int .i64 x2] 47)).alloc (.cells #[.int .u64 x3, .int .i64 x4] 47)).next hb).cell 2 _ rfl; have HZ5 := (((HZ4.out.alloc (.cells #[.int .u64 x1, .int .i64 x2] 47)).alloc (.cells #[.int .u64 x3, .int .i64 x4] 47)).next hb); have HV5 := (((HV4.out.alloc (.cells #[.int .u64 x1, .int .i64 x2] 47)).alloc (.cells #[.int .u64 x3, .int .i64 x4] 47)).next hb); have HP5 := HP4.out.next hb; have HQ5 := HQ4.out.next hb; have e0 := HZ5.cell 0 _ rfl; have e1 := HZ5.cell 1 _ rfl; have f0 := HV5.cell 0 _ rfl; have f1 := HV5.cell 1 _ rfl; have g0 := HP5.cell 0 _ rfl; have g1 := HP5.cell 1 _ rfl; have h0 := HQ5.cell 0 _ rfl; have h1 := HQ5.cell 1 _ rfl; clear hb HZ5 HV5 HP5 HQ5 a0 a1 a2 b0 b1 b2)
    | (go_at_call 10; refine (heads_any s s' _ (HS.out.1.below H5.out) (HS.out.2.below H5.out)).mono ?_; rintro e w6 ⟨rfl, hb⟩; have H6 := Lib.hid (below_next H5.out hb); clear hb))
  trace_state
  go_ret
  exact ⟨rfl, H6.out⟩
end Go.Proofs.YthckkdkijajadaaDoor
