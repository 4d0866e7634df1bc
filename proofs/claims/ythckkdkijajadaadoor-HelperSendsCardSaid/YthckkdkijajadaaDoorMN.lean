/- Contract of take: a helper and just as many arguments as it has. -/
import Derived.Test.YthckkdkijajadaaDoorML
import Derived.Test.YthckkdkijajadaaDoorMM

/- Contract of take: a helper and just as many arguments as it has. -/
namespace Go.Proofs.YthckkdkijajadaaDoor
open Go.RowKit M

/-- a call that there is not -/
def noCall : Value := .agg #[.string ⟨#[]⟩, .int .i64 0, .int .i64 0, .int .i64 0, .int .i64 0, .int .i64 0, .slice none 0 0]
/-- a call as a value -/
def callV (n : Int) (q : Option Addr) (c : Nat) : Value := .agg #[.string (nmB n), .int .i64 (kd n 0), .int .i64 (kd n 1), .int .i64 (kd n 2), .int .i64 (most n), .int .i64 n, .slice q (cnt n) c]

/-- seven cells of a block are set, another one is made: what lies below stays -/
theorem below_set7 {W : World} {B : Nat} (hB : B ≤ W.heap.size) (v0 v1 v2 v3 v4 v5 v6 : Value) (o : Obj) :
    Below B W ((((((((W.setCell ⟨B, 0, none⟩ v0).setCell ⟨B, 1, none⟩ v1).setCell ⟨B, 2, none⟩ v2).setCell ⟨B, 3, none⟩ v3).setCell ⟨B, 4, none⟩ v4).setCell ⟨B, 5, none⟩ v5).setCell ⟨B, 6, none⟩ v6).alloc o) :=
  (((((((((Below.refl B W).setCell (p := ⟨B, 0, none⟩) (Nat.le_refl B) v0).setCell (p := ⟨B, 1, none⟩) (Nat.le_refl B) v1).setCell (p := ⟨B, 2, none⟩) (Nat.le_refl B) v2).setCell (p := ⟨B, 3, none⟩) (Nat.le_refl B) v3).setCell (p := ⟨B, 4, none⟩) (Nat.le_refl B) v4).setCell (p := ⟨B, 5, none⟩) (Nat.le_refl B) v5).setCell (p := ⟨B, 6, none⟩) (Nat.le_refl B) v6).alloc (by simp [World.setCell]; exact hB) o)
theorem below_s7 {W : World} {B : Nat} (v0 v1 v2 v3 v4 v5 v6 : Value) :
    Below B W (((((((W.setCell ⟨B, 0, none⟩ v0).setCell ⟨B, 1, none⟩ v1).setCell ⟨B, 2, none⟩ v2).setCell ⟨B, 3, none⟩ v3).setCell ⟨B, 4, none⟩ v4).setCell ⟨B, 5, none⟩ v5).setCell ⟨B, 6, none⟩ v6) :=
  ((((((((Below.refl B W).setCell (p := ⟨B, 0, none⟩) (Nat.le_refl B) v0).setCell (p := ⟨B, 1, none⟩) (Nat.le_refl B) v1).setCell (p := ⟨B, 2, none⟩) (Nat.le_refl B) v2).setCell (p := ⟨B, 3, none⟩) (Nat.le_refl B) v3).setCell (p := ⟨B, 4, none⟩) (Nat.le_refl B) v4).setCell (p := ⟨B, 5, none⟩) (Nat.le_refl B) v5).setCell (p := ⟨B, 6, none⟩) (Nat.le_refl B) v6)
theorem HSent.set7 {w W : World} {s : Nat → Addr} (h : HSent w s) (hb : Below w.heap.size w W) (g : Nat) {G : Nat} (hG : hN g = G) (hg : g < 5) : ∀ v0 v1 v2 v3 v4 v5 v6 o,
    ((((((((W.setCell ⟨w.heap.size, 0, none⟩ v0).setCell ⟨w.heap.size, 1, none⟩ v1).setCell ⟨w.heap.size, 2, none⟩ v2).setCell ⟨w.heap.size, 3, none⟩ v3).setCell ⟨w.heap.size, 4, none⟩ v4).setCell ⟨w.heap.size, 5, none⟩ v5).setCell ⟨w.heap.size, 6, none⟩ v6).alloc o).cell? ⟨G, 0, none⟩ = some (.iface 146 (.pointer (some (s g)))) :=
  fun v0 v1 v2 v3 v4 v5 v6 o => ((below_set7 hb.size v0 v1 v2 v3 v4 v5 v6 o).cell (p := ⟨G, 0, none⟩) (by rw [← hG]; exact h.size g)).trans ((h.below hb).at g hG hg)
set_option maxRecDepth 100000 in
set_option maxHeartbeats 1000000 in
theorem take_none (s : Nat → Addr) (n : Int) (q : Option Addr) (len cap : Nat) (w : World) (hs : HSent w s) (hn : (Lit.int .i64 n).wf = true) (hh : isH n = false) :
    Calls Tryd.prog 25 #[.int .i64 n, .slice q len cap] w fun e w' => e = .returned (.tuple #[noCall, rfV s n 0]) ∧ Below w.heap.size w w' := by
  have HLK : Hid (∀ {W : World} {b : Nat}, W.ownsMap Tryd.prog 3 selfR b 5 sgMap → _) := fun {W b} h => sg_look (w := W) (b := b) h n hn
  rw [hh] at HLK
  have HS := Lib.hid hs
  have hz : 0 < w.heap.size := hs.size 0
  have e0 : sgOf n = sgV (nmB n) (kd n 0) (kd n 1) (kd n 2) (most n) := rfl
  rw [e0] at HLK
  unfold sgV at HLK
  unfold noCall rfV
  generalize nmB n = nm at HLK
  generalize kd n 0 = k0 at HLK
  generalize kd n 1 = k1 at HLK
  generalize kd n 2 = k2 at HLK
  generalize most n = m at HLK
  clear hs hn hh e0
  go_enter Tryd.func25, Tryd.ntmps25
  go_wp2_with (go_at_call 33; refine (signatures_any _).mono ?_; rintro e w1 ⟨rfl, hb, hown⟩; have hl := HLK.out hown; rw [World.size_alloc] at hl; obtain ⟨hc, hf⟩ := bcell hb; have z1 := one_in hb; have G := ((HS.out.below (below1 hb)).alloc (.cells #[.string nm, .int .i64 k0, .int .i64 k1, .int .i64 k2, .int .i64 m] 72)).at 0 (G := 0) rfl (by omega); have G2 := HS.out.set7 (below1 hb) 0 (G := 0) rfl (by omega); clear hown)
  go_region
  all_goals
    go_wp2
    refine bodyPost_ret (v := .tuple #[.agg #[.string ⟨#[]⟩, .int .i64 0, .int .i64 0, .int .i64 0, .int .i64 0, .int .i64 0, .slice none 0 0], .iface 102 (.agg #[.int .i64 n, .iface 146 (.pointer (some (s 0)))])]) (by simp [results, Tryd.results25, go_sem, hc, z1]) rfl ⟨rfl, ?_⟩
    exact ((below1 hb).trans (below_set7 (by omega) _ _ _ _ _ _ _ _)).drew

theorem args_len (nm : ByteArray) (k0 k1 k2 m : Int) (w : World) :
    Calls Tryd.prog 34 #[.agg #[.string nm, .int .i64 k0, .int .i64 k1, .int .i64 k2, .int .i64 m]] w fun e w' => ∃ p c, e = .returned (.slice p (fK k0 k1 k2 3).length c) ∧ Below w.heap.size w w' := by
  refine (args_any nm k0 k1 k2 m w).mono ?_
  rintro e w' ⟨v, rfl, hb, ho⟩
  obtain ⟨p, c, rfl⟩ := own_slice ho
  exact ⟨p, c, rfl, hb⟩
theorem cell_box5 {w1 w2 : World} {v0 v1 v2 v3 v4 : Value} {t : TypeId} (h : Below (w1.alloc (.cells #[v0, v1, v2, v3, v4] t)).heap.size (w1.alloc (.cells #[v0, v1, v2, v3, v4] t)) w2) :
    w2.cell? ⟨w1.heap.size, 0, none⟩ = some v0 ∧ w2.cell? ⟨w1.heap.size, 1, none⟩ = some v1 ∧ w2.cell? ⟨w1.heap.size, 2, none⟩ = some v2 ∧ w2.cell? ⟨w1.heap.size, 3, none⟩ = some v3 ∧ w2.cell? ⟨w1.heap.size, 4, none⟩ = some v4 :=
  ⟨(h.cell (p := ⟨w1.heap.size, 0, none⟩) (by simp)).trans (cell_new w1 rfl), (h.cell (p := ⟨w1.heap.size, 1, none⟩) (by simp)).trans (cell_new w1 rfl), (h.cell (p := ⟨w1.heap.size, 2, none⟩) (by simp)).trans (cell_new w1 rfl), (h.cell (p := ⟨w1.heap.size, 3, none⟩) (by simp)).trans (cell_new w1 rfl), (h.cell (p := ⟨w1.heap.size, 4, none⟩) (by simp)).trans (cell_new w1 rfl)⟩
set_option maxRecDepth 100000 in
set_option maxHeartbeats 1000000 in
theorem take_few (s : Nat → Addr) (n : Int) (q : Option Addr) (len cap : Nat) (w : World) (hs : HSent w s) (hn : (Lit.int .i64 n).wf = true) (hh : isH n = true) (hl : len < cnt n) :
    Calls Tryd.prog 25 #[.int .i64 n, .slice q len cap] w fun e w' => e = .returned (.tuple #[noCall, rfV s n 1]) ∧ Below w.heap.size w w' := by
  have HLK : Hid (∀ {W : World} {b : Nat}, W.ownsMap Tryd.prog 3 selfR b 5 sgMap → _) := fun {W b} h => sg_look (w := W) (b := b) h n hn
  have HAL := Lib.hid (args_len (nmB n) (kd n 0) (kd n 1) (kd n 2) (most n))
  rw [fK_kinds hh, kinds_length] at HAL
  rw [hh] at HLK
  have HS := Lib.hid hs
  have hz : 1 < w.heap.size := hs.size 1
  have e0 : sgOf n = sgV (nmB n) (kd n 0) (kd n 1) (kd n 2) (most n) := rfl
  rw [e0] at HLK
  unfold sgV at HLK
  unfold noCall rfV
  generalize nmB n = nm at HLK HAL
  generalize kd n 0 = k0 at HLK HAL
  generalize kd n 1 = k1 at HLK HAL
  generalize kd n 2 = k2 at HLK HAL
  generalize most n = m at HLK HAL
  generalize cnt n = C at HAL hl
  have hlt : ((len : Int) < C) := by omega
  clear hs hn hh e0
  go_enter Tryd.func25, Tryd.ntmps25
  go_wp2_with (first
    | (go_at_call 33; refine (signatures_any _).mono ?_; rintro e w1 ⟨rfl, hb, hown⟩; have hl := HLK.out hown; rw [World.size_alloc] at hl; obtain ⟨hc, hf⟩ := bcell hb; have z1 := one_in hb; clear hown)
    | (go_at_call 34; refine (HAL.out _).mono ?_; rintro e w2 ⟨p2, c2, rfl, hb2⟩; obtain ⟨hc2, hf2⟩ := bcell hb2; have z2 := one_in hb2; obtain ⟨x0, x1, x2, x3, x4⟩ := cell_box5 hb2; have hbb := below_next (below1 hb) (below1 hb2); have y := fun i => (below1 hb2).cell (p := ⟨w.heap.size, i, none⟩) z1; have G := (HS.out.below hbb).at 1 (G := 1) rfl (by omega)))
  go_region
  all_goals
    go_wp2
    refine bodyPost_ret (v := .tuple #[.agg #[.string ⟨#[]⟩, .int .i64 0, .int .i64 0, .int .i64 0, .int .i64 0, .int .i64 0, .slice none 0 0], .iface 102 (.agg #[.int .i64 n, .iface 146 (.pointer (some (s 1)))])]) (by simp [results, Tryd.results25, go_sem, y, hc]) rfl ⟨rfl, ?_⟩
    exact (hbb.trans (below_s7 _ _ _ _ _ _ _)).drew

set_option maxRecDepth 100000 in
theorem slice_head (q : Option Addr) (len cap C : Nat) (h : C ≤ cap) (w : World) :
    (Instr.sliceAt 32 (.slice q len cap) none (some (.int .i64 C)) none).run Tryd.prog w = .ok (.slice q C cap) w ∧ (Instr.slice 32 (.slice q len cap) none (some (.int .i64 C)) none).run Tryd.prog w = .ok (.slice q C cap) w := by
  have e : (Instr.slice 32 (.slice q len cap) none (some (.int .i64 C)) none).run Tryd.prog w = .ok (.slice q C cap) w := by
    rw [run_slice_h w 32 q len cap Tryd.underlying32 .i64 C (by omega) (by omega)]
    have hz : (sizeOf (Tryd.prog.elem 32)).run Tryd.prog w = .ok 1 w := by kernel_rfl
    rw [hz]
    have hq : q.map (·.add 0) = q := by cases q <;> simp [Addr.add]
    simp [sliced, hq]
  exact ⟨(run_sliceAt_slice w 32 _ _ _ _ Tryd.underlying32).trans e, e⟩
set_option maxRecDepth 100000 in
set_option maxHeartbeats 1000000 in
theorem take_ok (n : Int) (q : Option Addr) (len cap : Nat) (w : World) (hn : (Lit.int .i64 n).wf = true) (hh : isH n = true) (hl : cnt n ≤ len) (hcap : len ≤ cap) :
    Calls Tryd.prog 25 #[.int .i64 n, .slice q len cap] w fun e w' => e = .returned (.tuple #[callV n q cap, .nilIface]) ∧ Below w.heap.size w w' := by
  have HLK : Hid (∀ {W : World} {b : Nat}, W.ownsMap Tryd.prog 3 selfR b 5 sgMap → _) := fun {W b} h => sg_look (w := W) (b := b) h n hn
  have HAL := Lib.hid (args_len (nmB n) (kd n 0) (kd n 1) (kd n 2) (most n))
  rw [fK_kinds hh, kinds_length] at HAL
  rw [hh] at HLK
  have e0 : sgOf n = sgV (nmB n) (kd n 0) (kd n 1) (kd n 2) (most n) := rfl
  rw [e0] at HLK
  have hsl := fun w => (slice_head q len cap (cnt n) (by omega) w).1
  have hsl2 := fun w => (slice_head q len cap (cnt n) (by omega) w).2
  unfold sgV at HLK
  unfold callV
  generalize nmB n = nm at HLK HAL ⊢
  generalize kd n 0 = k0 at HLK HAL ⊢
  generalize kd n 1 = k1 at HLK HAL ⊢
  generalize kd n 2 = k2 at HLK HAL ⊢
  generalize most n = m at HLK HAL ⊢
  generalize cnt n = C at HAL hl hsl hsl2 ⊢
  have hlt : ¬ ((len : Int) < C) := by omega
  clear hn hh e0
  go_enter Tryd.func25, Tryd.ntmps25
  go_wp2_with (first
    | (go_at_call 33; refine (signatures_any _).mono ?_; rintro e w1 ⟨rfl, hb, hown⟩; have hl := HLK.out hown; rw [World.size_alloc] at hl; obtain ⟨hc, hf⟩ := bcell hb; have z1 := one_in hb; clear hown)
    | (go_at_call 34; refine (HAL.out _).mono ?_; rintro e w2 ⟨p2, c2, rfl, hb2⟩; obtain ⟨hc2, hf2⟩ := bcell hb2; have z2 := one_in hb2; obtain ⟨x0, x1, x2, x3, x4⟩ := cell_box5 hb2; have hbb := below_next (below1 hb) (below1 hb2); have y := fun i => (below1 hb2).cell (p := ⟨w.heap.size, i, none⟩) z1))
  go_region
  all_goals
    go_wp2
    refine bodyPost_ret (v := .tuple #[.agg #[.string nm, .int .i64 k0, .int .i64 k1, .int .i64 k2, .int .i64 m, .int .i64 n, .slice q C cap], .nilIface]) (by simp [results, Tryd.results25, go_sem, y, hc]) rfl ⟨rfl, ?_⟩
    exact (hbb.trans (below_s7 _ _ _ _ _ _ _)).drew
end Go.Proofs.YthckkdkijajadaaDoor

/- Contracts of span: the bytes at the argument of a kind. -/
namespace Go.Proofs.YthckkdkijajadaaDoor
open Go.RowKit M

theorem slice70 (b o : Nat) (w : World) : (Instr.sliceAt 70 (.pointer (some ⟨b, o, none⟩)) none none none).run Tryd.prog w = .ok (.slice (some ⟨b, o, none⟩) 3 3) w := by kernel_rfl
theorem cells7 (w : World) (v0 v1 v2 v3 v4 v5 v6 : Value) (t : TypeId) (o2 : Obj) : ((w.alloc (.cells #[v0, v1, v2, v3, v4, v5, v6] t)).alloc o2).cell? ⟨w.heap.size, 1, none⟩ = some v1 ∧ ((w.alloc (.cells #[v0, v1, v2, v3, v4, v5, v6] t)).alloc o2).cell? ⟨w.heap.size, 2, none⟩ = some v2 ∧ ((w.alloc (.cells #[v0, v1, v2, v3, v4, v5, v6] t)).alloc o2).cell? ⟨w.heap.size, 3, none⟩ = some v3 := by
  refine ⟨?_, ?_, ?_⟩ <;> exact (((Below.refl _ _).alloc (Nat.le_refl _) _).cell (by simp)).trans (cell_new w rfl)
set_option maxRecDepth 100000 in
set_option maxHeartbeats 1000000 in
theorem span_none (nm : ByteArray) (k0 k1 k2 m n v : Int) (q : Option Addr) (C c : Nat) (w : World) (hi : idx3 k0 k1 k2 v = -1) :
    Calls Tryd.prog 35 #[.agg #[.string nm, .int .i64 k0, .int .i64 k1, .int .i64 k2, .int .i64 m, .int .i64 n, .slice q C c], .int .i64 v] w fun e w' => e = .returned (.agg #[.int .u64 0, .int .i64 0]) ∧ Below w.heap.size w w' := by
  have hs := slice70
  have HI := Lib.hid (fun W b o c0 c1 c2 => index_any b o k0 k1 k2 v W c0 c1 c2)
  rw [hi] at HI
  clear hi
  have HC := Lib.hid (cells7 w)
  go_enter Tryd.func35, Tryd.ntmps35
  go_wp2_with (go_at_call 52; refine (HI.out _ _ _ ((HC.out _ _ _ _ _ _ _ _ _).1) ((HC.out _ _ _ _ _ _ _ _ _).2.1) ((HC.out _ _ _ _ _ _ _ _ _).2.2)).mono ?_; rintro e w1 ⟨rfl, rfl⟩)
  refine bodyPost_ret (v := .agg #[.int .u64 0, .int .i64 0]) (by simp [results, Tryd.results35, go_sem]) rfl ⟨rfl, ?_⟩
  exact ((Below.refl _ _).alloc (Nat.le_refl _) _).alloc (by simp) _
set_option maxRecDepth 100000 in
set_option maxHeartbeats 1000000 in
theorem span_at (nm : ByteArray) (k0 k1 k2 m n : Int) (b o C c : Nat) (x0 x1 : Int) (w : World) (hb : b < w.heap.size) (hC : 2 ≤ C) (hCs : C ≤ 17592186044154) (c0 : w.cell? ⟨b, o, none⟩ = some (.int .u64 x0)) (c1 : w.cell? ⟨b, o + 1, none⟩ = some (.int .u64 x1)) (hx : 0 ≤ x1) :
    Calls Tryd.prog 35 #[.agg #[.string nm, .int .i64 k0, .int .i64 k1, .int .i64 k2, .int .i64 m, .int .i64 n, .slice (some ⟨b, o, none⟩) C c], .int .i64 k0] w fun e w' => e = .returned (.agg #[.int .u64 x0, .int .i64 (szC x1)]) ∧ Below w.heap.size w w' := by
  have hs := slice70
  have HI := Lib.hid (fun W b o c0 c1 c2 => index_any b o k0 k1 k2 k0 W c0 c1 c2)
  rw [show idx3 k0 k1 k2 k0 = 0 by simp [idx3]] at HI
  have hb2 : ∀ o1 o2, Below w.heap.size w ((w.alloc o1).alloc o2) := fun o1 o2 => ((Below.refl _ _).alloc (Nat.le_refl _) _).alloc (by simp) _
  have HB := Lib.hid hb2
  have d0 := fun o1 o2 => ((hb2 o1 o2).cell (p := ⟨b, o, none⟩) hb).trans c0
  have d1 := fun o1 o2 => ((hb2 o1 o2).cell (p := ⟨b, o + 1, none⟩) hb).trans c1
  have HC := Lib.hid (cells7 w)
  clear c0 c1 hb2
  by_cases h65 : x1 ≤ 65
  · go_enter Tryd.func35, Tryd.ntmps35
    go_wp2_with (go_at_call 52; refine (HI.out _ _ _ ((HC.out _ _ _ _ _ _ _ _ _).1) ((HC.out _ _ _ _ _ _ _ _ _).2.1) ((HC.out _ _ _ _ _ _ _ _ _).2.2)).mono ?_; rintro e w1 ⟨rfl, rfl⟩)
    go_region
    all_goals
      go_wp2
      refine bodyPost_ret (v := .agg #[.int .u64 x0, .int .i64 x1]) (by simp [results, Tryd.results35, go_sem]) rfl ⟨by rw [szC, if_pos h65], ?_⟩
      exact (HB.out _ _).drew
  · have h65' : 65 < x1 := by omega
    go_enter Tryd.func35, Tryd.ntmps35
    go_wp2_with (go_at_call 52; refine (HI.out _ _ _ ((HC.out _ _ _ _ _ _ _ _ _).1) ((HC.out _ _ _ _ _ _ _ _ _).2.1) ((HC.out _ _ _ _ _ _ _ _ _).2.2)).mono ?_; rintro e w1 ⟨rfl, rfl⟩)
    go_region
    all_goals
      go_wp2
      refine bodyPost_ret (v := .agg #[.int .u64 x0, .int .i64 65]) (by simp [results, Tryd.results35, go_sem]) rfl ⟨by rw [szC, if_neg (by omega)], ?_⟩
      exact (HB.out _ _).drew
end Go.Proofs.YthckkdkijajadaaDoor

/- Contract of repeated: bytes of a number, over and over. -/
namespace Go.Proofs.YthckkdkijajadaaDoor
open Go.RowKit M

/-- a number's bytes, over and over -/
def repB (x : Int) (j : Nat) : Int := putB x (j % 8)
def repL (x : Int) (n : Nat) : List Int := (List.range n).map (repB x)
theorem repL_length (x : Int) (n : Nat) : (repL x n).length = n := by simp [repL]
theorem repL_getD (x : Int) {n j : Nat} (h : j < n) : (repL x n).getD j 0 = repB x j := by simp [repL, h]
def repRow (x : Int) (k j : Nat) : Value := .int .u8 (if j < k then repB x j else 0)
/-- a row of bytes of the call's own -/
def RowOwn (B : List Int) (w : World) (e : Ending) (w' : World) : Prop :=
  ∃ g, e = .returned (.slice (some ⟨g, 0, none⟩) B.length B.length) ∧ Below w.heap.size w w' ∧ RowAt w' (some ⟨g, 0, none⟩) B
theorem rep_row {wr : World} {x : Int} {n g : Nat} {t : TypeId} (hn : n ≤ 4096) (h : wr.rowIs g t n (repRow x n)) : RowAt wr (some ⟨g, 0, none⟩) (repL x n) :=
  ⟨by rw [repL_length]; omega, fun j hj => by
    rw [repL_length] at hj
    refine ⟨_, _, rfl, h.lt, ?_⟩
    rw [repL_getD x hj, Nat.zero_add, h.cell hj]
    simp only [repRow]
    rw [if_pos hj],
   fun j hj => by
    rw [repL_length] at hj
    rw [repL_getD x hj]
    exact putB_bd x _⟩
theorem tmod8 (k : Nat) : ((k : Int)).tmod 8 = ((k % 8 : Nat) : Int) := by
  rw [Int.tmod_eq_emod_of_nonneg (by omega)]; omega
set_option maxRecDepth 100000 in
set_option maxHeartbeats 400000 in
theorem repeated_any (x : Int) (n : Nat) (w : World) (hn : n ≤ 4096) :
    Calls Tryd.prog 49 #[.int .u64 x, .int .i64 n] w (RowOwn (repL x n) w) := by
  have HP : Hid (∀ wr g, Below w.heap.size w wr → wr.rowIs g 5 n (repRow x n) → RowOwn (repL x n) w (.returned (.slice (some ⟨g, 0, none⟩) n n)) wr) :=
    fun wr g hb hr => ⟨g, by rw [repL_length], hb, rep_row hn hr⟩
  have HPUT := Lib.hid (fun W => put_yes x 8 W rfl (Nat.le_refl _))
  unfold PutPost at HPUT
  rw [putL_length] at HPUT
  have HMK := fun W => run_make_row' (P := Tryd.prog) 33 5 (.int .u8 0) 1 Tryd.underlying33 info5 rfl .i64 .i64 n (by omega) (by omega) W
  generalize RowOwn (repL x n) w = POST at *
  go_enter Tryd.func49, Tryd.ntmps49
  go_wp2_with (go_at_call 60; refine (HPUT.out _).mono ?_; rintro e w1 ⟨g1, cp1, rfl, hb, hrow⟩; have HB := Lib.hid hb; have HROW := Lib.hid hrow; clear hb hrow)
  go_loopw [14] (fun i wx => ∃ k : Nat, k ≤ n ∧ i = .int .i64 k ∧ Hid (Below w1.heap.size w1 wx) ∧ Hid (wx.rowIs w1.heap.size 5 n (repRow x k))) (fun i _ => n - (intOf i).toNat)
  case atStart =>
    exact ⟨0, Nat.zero_le _, rfl, (Below.refl _ _).alloc (Nat.le_refl _) _, (World.rowIs_made w1 _ _ _).congr (fun i hi => by simp [repRow])⟩
  case round =>
    obtain ⟨k, hk, rfl, HB2, HR⟩ := hrel
    have HBW := Lib.hid (below_next HB.out HB2.out)
    by_cases hlt : k < n
    · have d1 := HR.out.cell hlt
      have d2 := HR.out.frozen k
      obtain ⟨Y, hY⟩ : ∃ Y, repRow x k k = Y := ⟨_, rfl⟩
      rw [hY] at d1
      obtain ⟨b, off, e, hbl, hc⟩ := (HROW.out.below HB2.out).cells (k % 8) (by rw [putL_length]; omega)
      rw [putL_getD x (by omega)] at hc
      injection e with e
      injection e with e1 e2
      subst e1 e2
      rw [Nat.zero_add] at hc
      have ht := tmod8 k
      have hm : k % 8 < 8 := by omega
      have HY : Hid (putB x (k % 8) = repB x k) := rfl
      generalize putB x (k % 8) = y at hc HY
      generalize k % 8 = r at hc ht hm
      clear hY
      go_wp2
      go_roundw
      case rel =>
        refine ⟨k + 1, by omega, by go_num, HB2.out.setCell (p := ⟨w1.heap.size, k, none⟩) (Nat.le_refl _) _, (HR.out.set k _).congr fun i hi => ?_⟩
        simp only [repRow]
        by_cases h1 : i = k
        · subst h1; rw [if_pos rfl, if_pos (by omega), HY.out]
        · by_cases h2 : i < k
          · rw [if_neg h1, if_pos h2, if_pos (by omega)]
          · rw [if_neg h1, if_neg h2, if_neg (by omega)]
      case measure => simp [intOf]; omega
    · have hkn : n ≤ k := by omega
      go_wp2
      exact HP.out _ _ HBW.out (HR.out.congr fun i hi => by simp only [repRow]; rw [if_pos (by omega), if_pos hi])
end Go.Proofs.YthckkdkijajadaaDoor
