/- Contract of Fresh: a memory of noughts, or why there is none. -/
import Derived.Test.YtgchdiocbllppaaDoorE
namespace Go.Proofs.YtgchdiocbllppaaDoor
open Go.RowKit M

set_option maxHeartbeats 400000 in
theorem fresh_bad (c : Int) (cw : Bool) (p : Option Addr) (len cap : Nat) (ms : List Ar) (w : World) (hm : MapsAt w p len ms) (ho : okL c ms = false) :
    Calls Tryd.prog 9 #[.agg #[.int .i64 c, .bool cw, .slice p len cap]] w fun e w' => e = .returned (.tuple #[.slice none 0 0, .int .i64 22]) ∧ Below w.heap.size w w' := by
  have HM := Lib.hid hm
  have HO := Lib.hid ho
  clear hm ho
  go_enter Tryd.func9, Tryd.ntmps9
  go_wp2_with (go_at_call 11; refine (check_is _ _ _ _ _ ms _ (HM.out.alloc _) HO.out).mono ?_; rintro e w1 ⟨rfl, hb⟩; rw [chk_false]; obtain ⟨hc, hf⟩ := bcell hb; have hz := one_in hb)
  go_ret2
  exact ⟨rfl, below1 hb⟩

theorem cell_one_new' (w : World) (o : Obj) (x : Value) (t : TypeId) : ∀ j u, [x][j]? = some u → ((w.alloc o).alloc (.cells #[x] t)).cell? ((⟨w.heap.size + 1, 0, none⟩ : Addr).add j) = some u := by
  have h := cell_one_new (w.alloc o) x t
  rw [World.size_alloc] at h
  exact h
theorem own_ge {w : World} {base : Nat} {e : TypeId} {size : Nat} {v : Value} {n : Nat} {xs : List Value} (h : w.ownsRow base e size v n xs) : ∀ k, v.ownBlock = some k → base ≤ k := by
  obtain ⟨_, ⟨rfl, _⟩ | ⟨g, cap, cur, rfl, hb, _⟩⟩ := h
  · simp [Value.ownBlock]
  · intro k hk
    simp [Value.ownBlock] at hk
    omega
theorem two_blocks' (B : Nat) (w : World) (o1 o2 : Obj) (hB : B ≤ w.heap.size) : Below B w ((w.alloc o1).alloc o2) := ((Below.refl _ _).alloc hB _).alloc (by simp; omega) _
def zOf (c : Int) (ms : List Ar) (i : Nat) : Nat := (szOf c ms i).toNat
def FreshPost (c : Int) (ms : List Ar) (n : Nat) (w : World) (e : Ending) (w' : World) : Prop :=
  ∃ g cap Q, e = .returned (.tuple #[.slice (some ⟨g, 0, none⟩) n cap, .int .i64 0]) ∧ MemAt w' (some ⟨g, 0, none⟩) Q (zOf c ms) (freshM (zOf c ms) n) ∧ Below w.heap.size w w'
theorem Rows0.grown_at {w w' : World} {Q Z : Nat → Nat} {k : Nat} {base : Nat} {v : Value} {n : Nat} {xs : List Value} (h : Rows0 w Q Z k) (ho : w.ownsRow base 36 1 v n xs) (hg : w.grownBy w' v.ownBlock) : Rows0 w' Q Z k := h.grown ho hg
set_option maxRecDepth 100000 in
set_option maxHeartbeats 1000000 in
theorem fresh_ok (c : Int) (cw : Bool) (p : Option Addr) (len cap : Nat) (ms : List Ar) (w : World) (hm : MapsAt w p len ms) (ho : okL c ms = true) :
    Calls Tryd.prog 9 #[.agg #[.int .i64 c, .bool cw, .slice p len cap]] w (FreshPost c ms (len + 2) w) := by
  have HM := Lib.hid hm
  have HO := Lib.hid ho
  have hl8 : len ≤ 8 := by have := (okL_parts ho).2.1; have := hm.hlen; omega
  have HSB := Lib.hid (fun i hi => szOf_bd (i := i) hm.hlen ho hi)
  obtain ⟨i36, h36, g36, s36, b36⟩ := info_parts info36
  have H36 := Lib.hid h36
  have G36 := Lib.hid g36
  have S36 := Lib.hid s36
  have B36 := Lib.hid b36
  have HMK := Lib.hid (fun (N : Nat) (hN : N ≤ 4096) W => run_make_row' (P := Tryd.prog) 36 5 (.int .u8 0) 1 Tryd.underlying36 info5 rfl .i64 .i64 N (by omega) (by omega) W)
  clear hm ho h36 g36 s36 b36
  go_enter Tryd.func9, Tryd.ntmps9
  go_wp2_with (first
    | (go_at_call 11; refine (check_is _ _ _ _ _ ms _ (HM.out.alloc _) HO.out).mono ?_; rintro e w1 ⟨rfl, hb⟩; rw [chk_true]; obtain ⟨hc, hf⟩ := bcell hb; have hz := one_in hb)
    | (go_at_call 37; refine (sizes_any _ _ _ _ _ ms _ (HM.out.below (below1 hb)) hl8).mono ?_; rintro e w2 ⟨rfl, hb2, hrow⟩; have HROW := Lib.hid hrow; clear hrow))
  have hb12 := below_next (below1 hb) hb2
  clear hc hf
  go_loopw [5, 16] (fun v i wr => ∃ (k : Nat) (Q : Nat → Nat), k ≤ len + 2 ∧ i = .int .i64 k ∧ Below w2.heap.size w2 wr ∧ wr.ownsRow w2.heap.size 36 1 v k ((List.range k).map (rowV Q (zOf c ms))) ∧ Rows0 wr Q (zOf c ms) k) (fun _ i _ => (len + 2) - (intOf i).toNat)
  case atStart => exact ⟨0, fun _ => 0, Nat.zero_le _, rfl, Below.refl _ _, ⟨rfl, .inl ⟨rfl, rfl⟩⟩, ⟨fun i hi => absurd hi (Nat.not_lt_zero _)⟩⟩
  case round =>
    obtain ⟨k, Q, hk, rfl, hbr, hown, hrows⟩ := hrel
    by_cases hlt : k < len + 2
    · have d1 := (rowIs_below HROW.out hbr HROW.out.lt).cell hlt
      have hZ := HSB.out k hlt
      obtain ⟨z, hz1⟩ : ∃ z : Nat, szOf c ms k = z := ⟨(szOf c ms k).toNat, by omega⟩
      have hz2 : zOf c ms k = z := by unfold zOf; rw [hz1]; simp
      rw [hz1] at d1
      have hz4 : z ≤ 4096 := by omega
      have hmk := HMK.out z hz4
      have HZ1 := Lib.hid hz1
      have HZ2 := Lib.hid hz2
      have HOWN := Lib.hid hown
      have HRS := Lib.hid hrows
      clear hz1 hz2 hZ hown hrows
      go_wp2_with (at_builtin; refine wpList_append_own _ rfl (.tmp 20) (.tmp 23) 28 rfl w2.heap.size 36 i36 _ 1 24 Tryd.underlying28 H36.out G36.out S36.out B36.out rfl (by decide) _ _ _ rfl ((HOWN.out.alloc _).alloc _) ⟨wr.heap.size + 1, 0, none⟩ 1 1 [.slice (some ⟨wr.heap.size, 0, none⟩) z z] rfl rfl ?c1 ?c2 ?c3 ?c4 ?c5 ?_)
      case c1 => exact cell_one_new' _ _ _ _
      case c2 => simp [Value.oneCell']
      case c3 => simp only [maxLen]; omega
      case c4 => omega
      case c5 => have := hbr.size; simp; omega
      intro v' w3 hown' hg _
      have hb3 := (hbr.trans (two_blocks' w2.heap.size wr _ _ hbr.size)).grown hg (by have := hbr.size; simp; omega) (own_ge HOWN.out)
      have hr3 := (((HRS.out.alloc (.cells (madeCells #[.int .u8 0] z) 5)).alloc (.cells #[.slice (some ⟨wr.heap.size, 0, none⟩) z z] 36)).snoc (b := wr.heap.size) (by rw [HZ2.out]; exact (World.rowIs_made wr (.int .u8 0) z 5).alloc _)).grown_at ((HOWN.out.alloc _).alloc _) hg
      have HO3 := Lib.hid hown'
      have HR3 := Lib.hid hr3
      clear hown' hr3 hg
      go_wp2
      go_roundw
      case rel =>
        refine ⟨k + 1, upd Q k wr.heap.size, by omega, by go_num, hb3, ?_, HR3.out⟩
        rw [rows_snoc, HZ2.out]
        exact HO3.out
      case measure => simp [intOf]; omega
    · have HOWN := Lib.hid hown
      have HRS := Lib.hid hrows
      clear hown hrows
      go_wp2
      go_ret2
      have hkl : k = len + 2 := by omega
      subst hkl
      obtain ⟨g, cap', hv, hmem⟩ := fresh_mem (by omega) (by omega) (fun i hi => by have := HSB.out i hi; unfold zOf; omega) HOWN.out HRS.out
      exact ⟨g, cap', _, by rw [hv]; rfl, hmem, below_next hb12 hbr⟩
end Go.Proofs.YtgchdiocbllppaaDoor
