/- Contracts of the document's own answer: a fresh memory; are two memories the same? -/
import Derived.Test.YtgchdiocbllppaaDoorRE
namespace Go.Proofs.YtgchdiocbllppaaDoor
open Go.RowKit M

set_option maxRecDepth 100000 in
set_option maxHeartbeats 1000000 in
theorem rfresh_bad (c : Int) (cw : Bool) (q : Option Addr) (len cap : Nat) (ms : List Ar) (w : World) (hm : MapsAt w q len ms) (ho : okL c ms = false) :
    Calls Tryd.prog 16 #[.agg #[.int .i64 c, .bool cw, .slice q len cap]] w fun e w' => e = .returned (.tuple #[.slice none 0 0, .int .i64 22]) ∧ Below w.heap.size w w' := by
  have HM := Lib.hid hm
  have HO := Lib.hid ho
  clear hm ho
  go_enter Tryd.func16, Tryd.ntmps16
  go_wp2_with (go_at_call 18; refine (rcheck_is _ _ _ _ _ ms _ (HM.out.alloc _) HO.out).mono ?_; rintro e w1 ⟨rfl, hb⟩; rw [chk_false]; obtain ⟨hc, hf⟩ := bcell hb; have hz := one_in hb)
  go_ret2
  exact ⟨rfl, below1 hb⟩

theorem cell_one_new3 (w : World) (o1 o2 : Obj) (x : Value) (t : TypeId) : ∀ j u, [x][j]? = some u → (((w.alloc o1).alloc o2).alloc (.cells #[x] t)).cell? ((⟨w.heap.size + 1 + 1, 0, none⟩ : Addr).add j) = some u := by
  have h := cell_one_new' (w.alloc o1) o2 x t
  rw [World.size_alloc] at h
  exact h
theorem ownsRow_to {base : Nat} {e : TypeId} {size n : Nat} {v : Value} {xs : List Value} {w w' : World} (h : w.ownsRow base e size v n xs) (hb : Below w.heap.size w w') : w'.ownsRow base e size v n xs := by
  obtain ⟨hl, h | ⟨g, cap, cur, hv, hg, hh, r⟩⟩ := h
  · exact ⟨hl, .inl h⟩
  · exact ⟨hl, .inr ⟨g, cap, cur, hv, hg, (hb.block g (Array.getElem?_eq_some_iff.1 hh).1).trans hh, r⟩⟩
theorem Rows0.to {w w' : World} {Q Z : Nat → Nat} {k : Nat} (h : Rows0 w Q Z k) (hb : Below w.heap.size w w') : Rows0 w' Q Z k := ⟨fun i hi => rowIs_below (h.row i hi) hb (h.row i hi).lt⟩
set_option maxRecDepth 100000 in
set_option maxHeartbeats 1000000 in
theorem rfresh_ok (s : Nat → Addr) (c : Int) (cw : Bool) (q : Option Addr) (len cap : Nat) (ms : List Ar) (w : World) (hs : Sent w s) (hm : MapsAt w q len ms) (ho : okL c ms = true) :
    Calls Tryd.prog 16 #[.agg #[.int .i64 c, .bool cw, .slice q len cap]] w (FreshPost c ms (len + 2) w) := by
  have H0 := Lib.hid (LawW.first (c := c) (cw := cw) (cap := cap) hs hm)
  have HO := Lib.hid ho
  have HCK := Lib.hid (fun W hm => rcheck_is c cw q len cap ms W hm ho)
  have hl8 : len ≤ 8 := by have := (okL_parts ho).2.1; have := hm.hlen; omega
  have HSB := Lib.hid (fun i hi => szOf_bd (i := i) hm.hlen ho hi)
  obtain ⟨i36, h36, g36, s36, b36⟩ := info_parts info36
  have H36 := Lib.hid h36
  have G36 := Lib.hid g36
  have S36 := Lib.hid s36
  have B36 := Lib.hid b36
  have HMK := Lib.hid (fun (N : Nat) (hN : N ≤ 4096) W => run_make_row' (P := Tryd.prog) 36 5 (.int .u8 0) 1 Tryd.underlying36 info5 rfl .i64 .i64 N (by omega) (by omega) W)
  clear hm ho hs h36 g36 s36 b36
  go_enter Tryd.func16, Tryd.ntmps16
  go_wp2_with (go_at_call 18; refine (HCK.out _ H0.out.maps).mono ?_; rw [chk_true]; rintro e w1 ⟨rfl, hb⟩; have H1 := Lib.hid (H0.out.next hb); have k0 := H1.out.b0; have k1 := H1.out.b1; have k2 := H1.out.b2; clear hb)
  clear k0 k1 k2
  go_loopw [4, 5] (fun v i wr => ∃ (k : Nat) (Q : Nat → Nat), k ≤ len + 2 ∧ i = .int .i64 k ∧ Hid (LawW s w wr c cw q len cap ms) ∧ Below w1.heap.size w1 wr ∧ wr.ownsRow w1.heap.size 36 1 v k ((List.range k).map (rowV Q (zOf c ms))) ∧ Rows0 wr Q (zOf c ms) k) (fun _ i _ => (len + 2) - (intOf i).toNat)
  case atStart => exact ⟨0, fun _ => 0, Nat.zero_le _, rfl, H1.out, Below.refl _ _, ⟨rfl, .inl ⟨rfl, rfl⟩⟩, ⟨fun i hi => absurd hi (Nat.not_lt_zero _)⟩⟩
  case round =>
    obtain ⟨k, Q, hk, rfl, HW, hbr, hown, hrows⟩ := hrel
    by_cases hlt : k < len + 2
    · have hZ := HSB.out k hlt
      have HAR := Lib.hid (fun W hm => rarea_sz (c := c) (cw := cw) (ms := ms) q len cap W hm HO.out hlt)
      obtain ⟨z, hz1⟩ : ∃ z : Nat, szOf c ms k = z := ⟨(szOf c ms k).toNat, by omega⟩
      have hz2 : zOf c ms k = z := by unfold zOf; rw [hz1]; simp
      rw [hz1] at HAR
      have hz4 : z ≤ 4096 := by omega
      have hmk := HMK.out z hz4
      have HZ2 := Lib.hid hz2
      have HOWN := Lib.hid hown
      have HRS := Lib.hid hrows
      have k0 := HW.out.b0
      have k1 := HW.out.b1
      have k2 := HW.out.b2
      clear hz1 hz2 hZ hown hrows
      go_wp2_with fail
      refine (HAR.out _ HW.out.maps).mono ?_
      rintro e w3 ⟨⟨bb, rfl⟩, hb⟩
      have H3 := Lib.hid (fun o => (HW.out.next hb).alloc o)
      have hbr3 := below_next hbr hb
      have HOWN3 := Lib.hid (ownsRow_to HOWN.out hb)
      have HRS3 := Lib.hid (HRS.out.to hb)
      clear hb k0 k1 k2
      go_wp2_with (at_builtin; refine wpList_append_own _ rfl (.tmp 26) (.tmp 30) 28 rfl w1.heap.size 36 i36 _ 1 24 Tryd.underlying28 H36.out G36.out S36.out B36.out rfl (by decide) _ _ _ rfl (((HOWN3.out.alloc _).alloc _).alloc _) ⟨w3.heap.size + 1 + 1, 0, none⟩ 1 1 [.slice (some ⟨w3.heap.size + 1, 0, none⟩) z z] rfl rfl ?c1 ?c2 ?c3 ?c4 ?c5 ?_)
      case c1 => exact cell_one_new3 _ _ _ _ _
      case c2 => simp [Value.oneCell']
      case c3 => simp only [maxLen]; omega
      case c4 => omega
      case c5 => have := hbr3.size; simp; omega
      intro v' w4 hown' hg _
      have hb4 := (((hbr3.alloc hbr3.size (.cells #[.int .i64 z, .bool bb] 23)).alloc (by have := hbr3.size; simp; omega) (.cells (madeCells #[.int .u8 0] z) 5)).alloc (by have := hbr3.size; simp; omega) (.cells #[.slice (some ⟨w3.heap.size + 1, 0, none⟩) z z] 36)).grown hg (by have := hbr3.size; simp; omega) (own_ge HOWN.out)
      have hr4 := ((((HRS3.out.alloc (.cells #[.int .i64 z, .bool bb] 23)).alloc (.cells (madeCells #[.int .u8 0] z) 5)).alloc (.cells #[.slice (some ⟨w3.heap.size + 1, 0, none⟩) z z] 36)).snoc (b := w3.heap.size + 1) (by rw [HZ2.out]; exact (rowIs_made1 w3 _ (.int .u8 0) z 5).alloc _)).grown (((HOWN3.out.alloc _).alloc _).alloc _) hg
      have HO4 := Lib.hid hown'
      have HR4 := Lib.hid hr4
      clear hown' hr4 hg
      go_wp2
      go_roundw
      case rel =>
        refine ⟨k + 1, upd Q k (w3.heap.size + 1), by omega, by go_num, H1.out.next hb4, hb4, ?_, HR4.out⟩
        rw [rows_snoc, HZ2.out]
        exact HO4.out
      case measure => simp [intOf]; omega
    · have HOWN := Lib.hid hown
      have HRS := Lib.hid hrows
      have k0 := HW.out.b0
      have k1 := HW.out.b1
      have k2 := HW.out.b2
      clear hown hrows
      go_wp2
      go_ret2
      have hkl : k = len + 2 := by omega
      subst hkl
      obtain ⟨g, cap', hv, hmem⟩ := fresh_mem (by omega) (by omega) (fun i hi => by have := HSB.out i hi; unfold zOf; omega) HOWN.out HRS.out
      exact ⟨g, cap', _, by rw [hv]; rfl, hmem, HW.out.below⟩
end Go.Proofs.YtgchdiocbllppaaDoor
