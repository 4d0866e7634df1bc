/- Contracts of twin, and of reading a memory. -/
import Derived.Test.YthckkdkijajadaaDoorMC
import Derived.Laws.CopyOwn
import Derived.IntWalk

/- Contracts of twin, and of reading a memory. -/
namespace Go.Proofs.YthckkdkijajadaaDoor
open Go.RowKit M

/-- a slice of bytes lies in memory -/
structure RowAt (w : World) (q : Option Addr) (xs : List Int) : Prop where
  small : xs.length ≤ 140737488351232
  cells : ∀ j, j < xs.length → ∃ b off, q = some ⟨b, off, none⟩ ∧ b < w.heap.size ∧ w.cell? ⟨b, off + j, none⟩ = some (.int .u8 (xs.getD j 0))
  byte : ∀ j, j < xs.length → 0 ≤ xs.getD j 0 ∧ xs.getD j 0 < 256
theorem RowAt.below {w w' : World} {q : Option Addr} {xs : List Int} (h : RowAt w q xs) (hb : Below w.heap.size w w') : RowAt w' q xs :=
  ⟨h.small, fun j hj => by
    obtain ⟨b, off, e, hl, hc⟩ := h.cells j hj
    exact ⟨b, off, e, Nat.lt_of_lt_of_le hl hb.size, (hb.cell (p := ⟨b, off + j, none⟩) hl).trans hc⟩, h.byte⟩
theorem RowAt.alloc {w : World} {q : Option Addr} {xs : List Int} (h : RowAt w q xs) (o : Obj) : RowAt (w.alloc o) q xs := h.below ((Below.refl _ _).alloc (Nat.le_refl _) _)
theorem MemAt.row {w : World} {mp : Option Addr} {Q : Nat → Option Addr} {C : Nat → Nat} {M : List (List Int)} (h : MemAt w mp Q C M) {i : Nat} (hi : i < M.length) : RowAt w (Q i) (M.getD i []) :=
  ⟨h.rsmall i, fun j hj => h.rows i j hi hj, fun j hj => h.byte i j hi hj⟩
theorem RowAt.nil (w : World) (q : Option Addr) : RowAt w q [] := ⟨Nat.zero_le _, fun _ hj => absurd hj (Nat.not_lt_zero _), fun _ hj => absurd hj (Nat.not_lt_zero _)⟩
/-- bytes as cells -/
def bytesV (xs : List Int) : List Value := xs.map (Value.int .u8)
theorem bytesV_length (xs : List Int) : (bytesV xs).length = xs.length := by simp [bytesV]
theorem bytesV_one (xs : List Int) : ∀ v ∈ bytesV xs, v.oneCell' = true := by
  intro v hv
  obtain ⟨n, _, rfl⟩ := List.mem_map.1 hv
  rfl
theorem RowAt.src {w : World} {q : Option Addr} {xs : List Int} (h : RowAt w q xs) (hp : 0 < xs.length) : ∃ ad, q = some ad ∧ ∀ j v, (bytesV xs)[j]? = some v → w.cell? (ad.add j) = some v := by
  obtain ⟨b, off, rfl, _, _⟩ := h.cells 0 hp
  refine ⟨_, rfl, fun j v hv => ?_⟩
  have hj : j < xs.length := by
    have := (List.getElem?_eq_some_iff.1 hv).1
    rwa [bytesV_length] at this
  obtain ⟨b', off', e, _, hc⟩ := h.cells j hj
  injection e with e
  injection e with e1 e2
  subst e1 e2
  have : v = .int .u8 (xs.getD j 0) := by
    simp [bytesV, hj] at hv
    simp [hj, hv]
  rw [this]
  by_cases h0 : j = 0
  · subst h0; simpa [Addr.add] using hc
  · simpa [Addr.add, h0] using hc
/-- a block that holds just these bytes reads as they are -/
theorem RowAt.of_block {w : World} {g : Nat} {xs : List Int} {t : TypeId} {fr : Nat × Nat} (hs : xs.length ≤ 140737488351232) (hb : ∀ j, j < xs.length → 0 ≤ xs.getD j 0 ∧ xs.getD j 0 < 256) (h : w.heap[g]? = some (.cells (bytesV xs).toArray t fr)) : RowAt w (some ⟨g, 0, none⟩) xs :=
  ⟨hs, fun j hj => ⟨g, 0, rfl, (Array.getElem?_eq_some_iff.1 h).1, by simp [World.cell?, h, bytesV, hj]⟩, hb⟩
theorem made_list (z : Value) (n : Nat) : madeCells #[z] n = (List.replicate n z).toArray := by
  apply Array.ext
  · simp [madeCells]
  · intro i h1 h2
    simp [madeCells, Nat.mod_one]
theorem heap_new (w : World) (o : Obj) : (w.alloc o).heap[w.heap.size]? = some o := by
  show (w.heap.push o)[w.heap.size]? = _
  simp
theorem size5 : (Tryd.prog.info? 5).map (·.size) = some 1 := by kernel_rfl

set_option maxHeartbeats 400000 in
theorem twin_any (q : Option Addr) (qc : Nat) (xs : List Int) (w : World) (h : RowAt w q xs) :
    Calls Tryd.prog 62 #[.slice q xs.length qc] w fun e w' =>
      e = .returned (.slice (some ⟨w.heap.size, 0, none⟩) xs.length xs.length) ∧ Below w.heap.size w w' ∧ w'.heap[w.heap.size]? = some (.cells (bytesV xs).toArray 5 (0, 0)) := by
  have H := Lib.hid h
  have hs := h.small
  obtain ⟨N, hN⟩ : ∃ N, xs.length = N := ⟨_, rfl⟩
  rw [hN] at hs ⊢
  have HN := Lib.hid hN
  have hmk := fun W => run_make_row' (P := Tryd.prog) 33 5 (.int .u8 0) 1 Tryd.underlying33 info5 rfl .i64 .i64 N (by omega) (by omega) W
  clear hN h
  go_enter Tryd.func62, Tryd.ntmps62
  go_wp2_with (with_reducible refine wpList_copy_splice rfl (.tmp 7) (.tmp 8) 33 33 rfl 5 Tryd.underlying33 size5 (some ⟨w.heap.size, 0, none⟩) q N N N qc rfl rfl w.heap.size 0 (List.replicate N (.int .u8 0)) 5 ?c1 (bytesV xs) ?c2 ?c3 ?c4 (bytesV_one xs) w.heap.size w ?c5 (Nat.le_refl _) ?_)
  case c1 => rw [made_list]; exact heap_new _ _
  case c2 => rw [bytesV_length, HN.out]; simp
  case c3 =>
    intro hp
    exact (H.out.alloc _).src (by rwa [bytesV_length] at hp)
  case c4 => rw [bytesV_length, HN.out]; simp
  case c5 => exact (Below.refl _ _).alloc (Nat.le_refl _) _
  intro w1 hblk hb
  go_wp2
  go_ret
  refine ⟨rfl, hb, ?_⟩
  have h2 := hblk.out
  rw [show splice (List.replicate N (Value.int .u8 0)) 0 (bytesV xs) = bytesV xs by simp [splice, bytesV_length, HN.out]] at h2
  exact h2
end Go.Proofs.YthckkdkijajadaaDoor

/- Contract of read: the memory's own bytes of a span, or why not. -/
namespace Go.Proofs.YthckkdkijajadaaDoor
open Go.RowKit M

/-- where a granted access lies -/
theorem granted {c : Int} {wr : Bool} {ms : List Ar} {len : Nat} {M : List (List Int)} {a n : Int} {write : Bool} (hl : len = ms.length) (hmay : mayB c ms len M = true) (hk : findK c wr ms len a n write = 4) :
    ∃ r o nn : Nat, regOf a - 1 = r ∧ offOf a = o ∧ n = nn ∧ 1 ≤ nn ∧ nn ≤ 4096 ∧ r < M.length ∧ o + nn ≤ (M.getD r []).length ∧ (M.getD r []).length ≤ 4096 := by
  obtain ⟨h1, h2, h3, _⟩ := findK_ok hk
  obtain ⟨g1, g2, g3⟩ := mayB_true hmay
  obtain ⟨e1, e2⟩ : okL c ms = true ∧ hasReg len (regOf a) = true := by simpa [areaB] using h2
  obtain ⟨f1, f2⟩ : 1 ≤ regOf a ∧ regOf a < 3 + (len : Int) := by simpa [hasReg] using e2
  have ho : 0 ≤ offOf a := by unfold offOf; omega
  have hA : areaR c wr ms len (regOf a) = areaOf c wr ms (regOf a) := by simp [areaR, e1, e2]
  obtain ⟨r, hr⟩ : ∃ r : Nat, regOf a - 1 = r := ⟨(regOf a - 1).toNat, by omega⟩
  have hr' : regOf a = (r : Int) + 1 := by omega
  have hs := g3 r (by omega)
  rw [hA, hr', szOf_eq] at h3
  refine ⟨r, (offOf a).toNat, n.toNat, hr, by omega, by omega, by omega, by omega, by omega, by omega, ?_⟩
  have hb := areaR_bd c wr ms len (regOf a) hl
  rw [hA, hr', szOf_eq] at hb
  omega

/-- a span's bytes -/
def cut (xs : List Int) (o n : Nat) : List Int := (xs.drop o).take n
theorem cut_length {xs : List Int} {o n : Nat} (h : o + n ≤ xs.length) : (cut xs o n).length = n := by simp [cut]; omega
theorem cut_getD {xs : List Int} {o n j : Nat} (hj : j < n) : (cut xs o n).getD j 0 = xs.getD (o + j) 0 := by
  simp [cut, hj]
theorem RowAt.cut {w : World} {b off : Nat} {xs : List Int} {o n : Nat} (h : RowAt w (some ⟨b, off, none⟩) xs) (hn : o + n ≤ xs.length) : RowAt w (some ⟨b, off + o, none⟩) (cut xs o n) := by
  refine ⟨by rw [cut_length hn]; have := h.small; omega, fun j hj => ?_, fun j hj => ?_⟩
  · rw [cut_length hn] at hj
    obtain ⟨b', off', e, hl, hc⟩ := h.cells (o + j) (by omega)
    injection e with e
    injection e with e1 e2
    subst e1 e2
    exact ⟨_, _, rfl, hl, by rw [cut_getD hj, Nat.add_assoc]; exact hc⟩
  · rw [cut_length hn] at hj
    rw [cut_getD hj]
    exact h.byte (o + j) (by omega)
theorem cell_new (w : World) {cs : Array Value} {t : TypeId} {fr : Nat × Nat} {i : Nat} {v : Value} (h : cs[i]? = some v) : (w.alloc (.cells cs t fr)).cell? ⟨w.heap.size, i, none⟩ = some v := by
  simp only [World.cell?, heap_new]
  exact h
theorem cell_new2 (w : World) (o : Obj) {cs : Array Value} {t : TypeId} {fr : Nat × Nat} {i : Nat} {v : Value} (_ : True) (h : cs[i]? = some v) : ((w.alloc o).alloc (.cells cs t fr)).cell? ⟨w.heap.size + 1, i, none⟩ = some v := by
  have := cell_new (w.alloc o) (t := t) (fr := fr) h
  rwa [World.size_alloc] at this
theorem below_drewN {B : Nat} {a w : World} (h : Below B a w) (n : Nat) : Below B a (w.drewN n) := ⟨h.os, h.tape, h.output, h.size, h.block⟩
def flt (s : Nat → Addr) (a n : Int) (k : Nat) : Value := .iface 130 (.agg #[.int .u64 a, .int .i64 n, .iface 146 (.pointer (some (s k)))])

set_option maxHeartbeats 1000000 in
theorem read_stray (s : Nat → Addr) (c : Int) (cw : Bool) (p : Option Addr) (len cap : Nat) (ms : List Ar) (mp : Option Addr) (mc : Nat) (Q : Nat → Option Addr) (C : Nat → Nat) (M : List (List Int)) (a n : Int) (w : World) (hs : Sent w s) (hm : MapsAt w p len ms) (hM : MemAt w mp Q C M)
    (hmay : mayB c ms len M = false) :
    Calls Tryd.prog 61 #[.agg #[.int .i64 c, .bool cw, .slice p len cap], .slice mp M.length mc, .agg #[.int .u64 a, .int .i64 n]] w fun e w' =>
      e = .returned (.tuple #[.slice none 0 0, flt s a n 0]) ∧ Below w.heap.size w w' := by
  have HM := Lib.hid hm
  have HMM := Lib.hid hM
  have HS := Lib.hid hs
  have HMAY := Lib.hid hmay
  clear hm hM hs hmay
  go_enter Tryd.func61, Tryd.ntmps61
  go_wp2_with (go_at_call 46; refine (may_is _ _ _ _ _ ms _ _ Q C M _ ((HM.out.alloc _).alloc _) ((HMM.out.alloc _).alloc _) HMAY.out).mono ?_; rintro e w1 ⟨rfl, hb⟩; obtain ⟨hc, hf⟩ := bcell hb; obtain ⟨z1, z2⟩ := two_in hb; have G := HS.out.glob1 0 (G := 8) rfl (by omega); have G1 : w1.cell? ⟨8, 0, none⟩ = _ := (HS.out.below (below2 hb)).glob 0 (by omega))
  go_region
  all_goals
    go_wp2
    go_ret2
    exact ⟨rfl, (below2 hb).drew⟩
set_option maxHeartbeats 1000000 in
theorem read_err (s : Nat → Addr) (c : Int) (cw : Bool) (p : Option Addr) (len cap : Nat) (ms : List Ar) (mp : Option Addr) (mc : Nat) (Q : Nat → Option Addr) (C : Nat → Nat) (M : List (List Int)) (a n : Int) (w : World) (hs : Sent w s) (hm : MapsAt w p len ms) (hM : MemAt w mp Q C M)
    (ha : 0 ≤ a ∧ a < 18446744073709551616) (hmay : mayB c ms len M = true) (k : Nat) (hk : findK c cw ms len a n false = k) (hk4 : k < 4) :
    Calls Tryd.prog 61 #[.agg #[.int .i64 c, .bool cw, .slice p len cap], .slice mp M.length mc, .agg #[.int .u64 a, .int .i64 n]] w fun e w' =>
      e = .returned (.tuple #[.slice none 0 0, flt s a n k]) ∧ Below w.heap.size w w' := by
  have HM := Lib.hid hm
  have HMM := Lib.hid hM
  have HS := Lib.hid hs
  have HMAY := Lib.hid hmay
  have HA := Lib.hid ha
  have HK := Lib.hid hk
  clear hm hM hs hmay ha hk
  go_enter Tryd.func61, Tryd.ntmps61
  go_wp2_with (first
    | (go_at_call 46; refine (may_is _ _ _ _ _ ms _ _ Q C M _ ((HM.out.alloc _).alloc _) ((HMM.out.alloc _).alloc _) HMAY.out).mono ?_; rintro e w1 ⟨rfl, hb⟩; obtain ⟨hc, hf⟩ := bcell hb; obtain ⟨z1, z2⟩ := two_in hb)
    | (go_at_call 53; refine (find_err s _ _ _ _ _ ms _ _ _ _ (HS.out.below (below2 hb)) (HM.out.below (below2 hb)) HA.out k HK.out hk4).mono ?_; rintro e w2 ⟨rfl, hb2⟩))
  go_ret2
  exact ⟨rfl, (below_next (below2 hb) hb2).alloc (below_next (below2 hb) hb2).size _⟩

def ReadPost (M : List (List Int)) (a : Int) (n : Nat) (w : World) (e : Ending) (w' : World) : Prop :=
  ∃ b off qc, e = .returned (.tuple #[.slice (some ⟨b, off, none⟩) n qc, .nilIface]) ∧ Below w.heap.size w w' ∧ RowAt w' (some ⟨b, off, none⟩) (cut (M.getD (regOf a - 1).toNat []) (offOf a).toNat n)
set_option maxHeartbeats 1000000 in
theorem read_ok (s : Nat → Addr) (c : Int) (cw : Bool) (p : Option Addr) (len cap : Nat) (ms : List Ar) (mp : Option Addr) (mc : Nat) (Q : Nat → Option Addr) (C : Nat → Nat) (M : List (List Int)) (a n : Int) (w : World) (hs : Sent w s) (hm : MapsAt w p len ms) (hM : MemAt w mp Q C M)
    (ha : 0 ≤ a ∧ a < 18446744073709551616) (hmay : mayB c ms len M = true) (hk : findK c cw ms len a n false = 4) :
    Calls Tryd.prog 61 #[.agg #[.int .i64 c, .bool cw, .slice p len cap], .slice mp M.length mc, .agg #[.int .u64 a, .int .i64 n]] w (ReadPost M a n.toNat w) := by
  obtain ⟨r, o, nn, hr, ho, hn, hn1, hn2, hrM, hfit, hL⟩ := granted hm.hlen hmay hk
  obtain ⟨b, off, hmp, hbl, hcell, hLC, hC⟩ := hM.cells r hrM
  obtain ⟨b2, off2, hQ, hbl2, _⟩ := hM.rows r 0 hrM (by omega)
  have hrow := hM.row hrM
  rw [hQ] at hcell hrow
  have HPOST : Hid (∀ w', Below w.heap.size w w' → ∀ qc, ReadPost M a n.toNat w (.returned (.tuple #[.slice (some ⟨b2, off2 + o, none⟩) nn qc, .nilIface])) w') := by
    intro w' hb qc
    refine ⟨b2, off2 + o, qc, by rw [hn]; simp, hb, ?_⟩
    rw [hr, ho, hn]
    simpa using (hrow.cut hfit).below hb
  have HM := Lib.hid hm
  have HMM := Lib.hid hM
  have HS := Lib.hid hs
  have HMAY := Lib.hid hmay
  have HA := Lib.hid ha
  have HF := Lib.hid (find_fine s c cw p len cap ms a n false)
  have HK := Lib.hid hk
  obtain ⟨L, hLL⟩ : ∃ L, (M.getD r []).length = L := ⟨_, rfl⟩
  obtain ⟨K, hKK⟩ : ∃ K, M.length = K := ⟨_, rfl⟩
  have HMAYC := Lib.hid (may_is (v := true) c cw p len cap ms mp mc Q C M)
  rw [hKK] at HMAYC hrM ⊢
  rw [hLL] at hcell hfit hL hLC
  rw [hr, ho] at HF
  have hKs : K ≤ 140737488351232 := hKK ▸ hM.small
  subst hmp hn
  generalize C r = Cr at *
  clear hm hM hs hmay ha hk hr ho hQ hrow hLL hKK
  go_enter Tryd.func61, Tryd.ntmps61
  go_wp2_with (first
    | (go_at_call 46; refine (HMAYC.out _ ((HM.out.alloc _).alloc _) ((HMM.out.alloc _).alloc _) HMAY.out).mono ?_; rintro e w1 ⟨rfl, hb⟩; obtain ⟨hc, hf⟩ := bcell hb; obtain ⟨z1, z2⟩ := two_in hb)
    | (go_at_call 53; refine (HF.out _ (HS.out.below (below2 hb)) (HM.out.below (below2 hb)) HA.out HK.out).mono ?_; rintro e w2 ⟨rfl, hb2⟩; obtain ⟨hc2, hf2⟩ := bcell hb2; have hb12 := below_next (below2 hb) hb2))
  have e1 : ∀ o, (w2.alloc o).cell? ⟨b, off + r, none⟩ = some (.slice (some ⟨b2, off2, none⟩) L Cr) := fun o => ((hb12.alloc hb12.size o).cell (p := ⟨b, off + r, none⟩) hbl).trans hcell
  have e2 : ∀ o, (w2.alloc o).cell? ⟨w.heap.size + 1, 1, none⟩ = some (.int .i64 nn) := fun o => by
    rw [((Below.refl w2.heap.size w2).alloc (Nat.le_refl _) o).cell (p := ⟨w.heap.size + 1, 1, none⟩) (by show w.heap.size + 1 < _; exact Nat.lt_of_lt_of_le z2 hb2.size), hc2 _ _ z2, hc _ _ (by simp)]
    exact cell_new2 _ _ trivial rfl
  have HB := Lib.hid hb12
  clear hc hf hc2 hf2 hb hb2 z1 z2 hb12 hcell
  have w1 : IntKind.i64.wrap ((o : Int) + nn) = (o : Int) + nn := IntWalk.i64_in _ (by omega)
  have w2' : 0 ≤ (o : Int) + nn := by omega
  have w3 : ((o : Int) + nn).toNat = o + nn := by omega
  go_quiet (fail)
  go_wp2
  go_ret2
  exact HPOST.out _ (below_drewN (HB.out.alloc HB.out.size _) _) _
end Go.Proofs.YthckkdkijajadaaDoor

/- Contracts of Get, on both sides: the number of bytes. -/
namespace Go.Proofs.YthckkdkijajadaaDoor
open Go.RowKit M

def getTo (xs : List Int) : Nat → Int
  | 0 => 0
  | k + 1 => bits .or .u64 (getTo xs k) (IntKind.u64.wrap (xs.getD k 0 * 2 ^ (8 * k)))
def getN (xs : List Int) : Int := getTo xs (min xs.length 8)

set_option maxHeartbeats 400000 in
theorem rget_any (q : Option Addr) (qc : Nat) (xs : List Int) (w : World) (h : RowAt w q xs) :
    Calls Tryd.prog 41 #[.slice q xs.length qc] w fun e w' => e = .returned (.int .u64 (getN xs)) ∧ w = w' := by
  have hs := h.small
  obtain ⟨N, hN⟩ : ∃ N, xs.length = N := ⟨_, rfl⟩
  rw [hN] at hs ⊢
  have HN := Lib.hid hN
  have H := Lib.hid h
  clear hN h
  go_enter Tryd.func41, Tryd.ntmps41
  go_wp2
  all_goals
    go_loop [3, 4] (fun x i => ∃ k : Nat, k ≤ N ∧ k ≤ 8 ∧ i = .int .i64 k ∧ x = .int .u64 (getTo xs k)) (fun _ i => 8 - (intOf i).toNat)
    case atStart => exact ⟨0, Nat.zero_le _, Nat.zero_le _, rfl, rfl⟩
    case round =>
      obtain ⟨k, hk, hk8, rfl, rfl⟩ := hrel
      by_cases hlt : k < N ∧ k < 8
      · obtain ⟨hl1, hl2⟩ := hlt
        obtain ⟨b, off, rfl, hbl, hc⟩ := H.out.cells k (by rw [HN.out]; exact hl1)
        have hby := H.out.byte k (by rw [HN.out]; exact hl1)
        obtain ⟨X, hX⟩ : ∃ X, getTo xs k = X := ⟨_, rfl⟩
        obtain ⟨y, hy⟩ : ∃ y, xs.getD k 0 = y := ⟨_, rfl⟩
        rw [hX]
        rw [hy] at hc hby
        have HX := Lib.hid hX
        have HY := Lib.hid hy
        clear hX hy
        go_wp2
        go_round
        case rel => exact ⟨k + 1, by omega, by omega, by go_num, by rw [getTo, HX.out, HY.out]⟩
        case measure => simp [intOf]; omega
      · have hE := Lib.hid (show min xs.length 8 = k by rw [HN.out]; omega)
        by_cases hlt2 : k < N
        · go_wp2
          go_ret
          exact ⟨by unfold getN; rw [hE.out]; rfl, rfl⟩
        · go_wp2
          go_ret
          exact ⟨by unfold getN; rw [hE.out]; rfl, rfl⟩
end Go.Proofs.YthckkdkijajadaaDoor

/- Contracts of Load and Bytes. -/
namespace Go.Proofs.YthckkdkijajadaaDoor
open Go.RowKit M

/-- why a memory's span may not be accessed: 0: the memory is another layout's -/
def rdK (c : Int) (cw : Bool) (ms : List Ar) (len : Nat) (M : List (List Int)) (a n : Int) (write : Bool) : Nat := if mayB c ms len M = true then findK c cw ms len a n write else 0
theorem rdK_le (c : Int) (cw : Bool) (ms : List Ar) (len : Nat) (M : List (List Int)) (a n : Int) (write : Bool) : rdK c cw ms len M a n write ≤ 4 := by
  unfold rdK; split
  · exact findK_le _ _ _ _ _ _ _
  · omega
/-- what is read -/
def rdB (c : Int) (cw : Bool) (ms : List Ar) (len : Nat) (M : List (List Int)) (a n : Int) : List Int := if rdK c cw ms len M a n false = 4 then cut (M.getD (regOf a - 1).toNat []) (offOf a).toNat n.toNat else []
theorem rdK_ok {c : Int} {cw : Bool} {ms : List Ar} {len : Nat} {M : List (List Int)} {a n : Int} {write : Bool} (h : rdK c cw ms len M a n write = 4) : mayB c ms len M = true ∧ findK c cw ms len a n write = 4 := by
  unfold rdK at h
  split at h
  · exact ⟨‹_›, h⟩
  · omega
theorem read_bad (s : Nat → Addr) (c : Int) (cw : Bool) (p : Option Addr) (len cap : Nat) (ms : List Ar) (mp : Option Addr) (mc : Nat) (Q : Nat → Option Addr) (C : Nat → Nat) (M : List (List Int)) (a n : Int) (w : World) (hs : Sent w s) (hm : MapsAt w p len ms) (hM : MemAt w mp Q C M)
    (ha : 0 ≤ a ∧ a < 18446744073709551616) (k : Nat) (hk : rdK c cw ms len M a n false = k) (hk4 : k < 4) :
    Calls Tryd.prog 61 #[.agg #[.int .i64 c, .bool cw, .slice p len cap], .slice mp M.length mc, .agg #[.int .u64 a, .int .i64 n]] w fun e w' =>
      e = .returned (.tuple #[.slice none 0 0, flt s a n k]) ∧ Below w.heap.size w w' := by
  unfold rdK at hk
  split at hk
  · exact read_err s c cw p len cap ms mp mc Q C M a n w hs hm hM ha ‹_› k hk hk4
  · rename_i hn
    subst hk; exact read_stray s c cw p len cap ms mp mc Q C M a n w hs hm hM (Bool.eq_false_iff.2 hn)
theorem read_good (s : Nat → Addr) (c : Int) (cw : Bool) (p : Option Addr) (len cap : Nat) (ms : List Ar) (mp : Option Addr) (mc : Nat) (Q : Nat → Option Addr) (C : Nat → Nat) (M : List (List Int)) (a n : Int) (w : World) (hs : Sent w s) (hm : MapsAt w p len ms) (hM : MemAt w mp Q C M)
    (ha : 0 ≤ a ∧ a < 18446744073709551616) (hk : rdK c cw ms len M a n false = 4) :
    Calls Tryd.prog 61 #[.agg #[.int .i64 c, .bool cw, .slice p len cap], .slice mp M.length mc, .agg #[.int .u64 a, .int .i64 n]] w fun e w' =>
      ∃ b off qc, e = .returned (.tuple #[.slice (some ⟨b, off, none⟩) (rdB c cw ms len M a n).length qc, .nilIface]) ∧ Below w.heap.size w w' ∧ RowAt w' (some ⟨b, off, none⟩) (rdB c cw ms len M a n) := by
  obtain ⟨h1, h2⟩ := rdK_ok hk
  obtain ⟨r, o, nn, hr, ho, hn, hn1, hn2, hrM, hfit, hL⟩ := granted hm.hlen h1 h2
  have hB : rdB c cw ms len M a n = cut (M.getD (regOf a - 1).toNat []) (offOf a).toNat n.toNat := by simp [rdB, hk]
  have hlen : (rdB c cw ms len M a n).length = n.toNat := by rw [hB, hr, ho, hn]; exact cut_length (by simpa using hfit)
  rw [hlen, hB]
  exact read_ok s c cw p len cap ms mp mc Q C M a n w hs hm hM ha h1 h2

def loadE (c : Int) (cw : Bool) (ms : List Ar) (len : Nat) (M : List (List Int)) (a n : Int) : Int := if isSize n = true then accN (rdK c cw ms len M a n false) else 2
def loadV (c : Int) (cw : Bool) (ms : List Ar) (len : Nat) (M : List (List Int)) (a n : Int) : Int := if isSize n = true then getN (rdB c cw ms len M a n) else 0
theorem getN_nil : getN [] = 0 := rfl
theorem accN_4 : accN 4 = 0 := rfl
theorem accN_lt {k : Nat} (h : k < 4) : accN k = numOf k := by simp [accN]; omega

def BytesPost (B : List Int) (r : Int) (w : World) (e : Ending) (w' : World) : Prop :=
  ∃ g, e = .returned (.tuple #[.slice (some ⟨g, 0, none⟩) B.length B.length, .int .i64 r]) ∧ Below w.heap.size w w' ∧ RowAt w' (some ⟨g, 0, none⟩) B
set_option maxHeartbeats 1000000 in
theorem bytes_any (s : Nat → Addr) (c : Int) (cw : Bool) (p : Option Addr) (len cap : Nat) (ms : List Ar) (mp : Option Addr) (mc : Nat) (Q : Nat → Option Addr) (C : Nat → Nat) (M : List (List Int)) (a n : Int) (w : World) (hs : Sent w s) (hm : MapsAt w p len ms) (hM : MemAt w mp Q C M)
    (ha : 0 ≤ a ∧ a < 18446744073709551616) :
    Calls Tryd.prog 51 #[.agg #[.int .i64 c, .bool cw, .slice p len cap], .slice mp M.length mc, .int .u64 a, .int .i64 n] w
      (BytesPost (rdB c cw ms len M a n) (accN (rdK c cw ms len M a n false)) w) := by
  have HM := Lib.hid hm
  have HMM := Lib.hid hM
  have HS := Lib.hid hs
  have HA := Lib.hid ha
  have HB1 := Lib.hid (fun o => (Below.refl w.heap.size w).alloc (Nat.le_refl _) o)
  have hle := rdK_le c cw ms len M a n false
  obtain ⟨k, hk⟩ : ∃ k, rdK c cw ms len M a n false = k := ⟨_, rfl⟩
  rw [hk] at hle ⊢
  by_cases h4 : k = 4
  · subst h4
    rw [accN_4]
    have HRD := Lib.hid (read_good s c cw p len cap ms mp mc Q C M a n)
    have HK := Lib.hid hk
    obtain ⟨K, hK⟩ : ∃ K, M.length = K := ⟨_, rfl⟩
    rw [hK] at HRD ⊢
    generalize rdB c cw ms len M a n = B at *
    clear hm hM hs ha hk hle hK
    go_enter Tryd.func51, Tryd.ntmps51
    go_wp2_with (first
      | (go_at_call 61; refine (HRD.out _ (HS.out.below (HB1.out _)) (HM.out.alloc _) (HMM.out.alloc _) HA.out HK.out).mono ?_; rintro e w2 ⟨b, off, qc, rfl, hb, hrow⟩; have HR := Lib.hid hrow; clear hrow)
      | (go_at_call 62; refine (twin_any _ _ _ _ HR.out).mono ?_; rintro e w3 ⟨rfl, hb3, hblk⟩; have HBL := Lib.hid hblk; clear hblk)
      | (go_at_call 54; refine (number_nil _).mono ?_; rintro e w4 ⟨rfl, rfl⟩))
    go_ret2
    exact ⟨_, rfl, below_next (below1 hb) hb3, RowAt.of_block HR.out.small HR.out.byte HBL.out⟩
  · have hk4 : k < 4 := by omega
    have e1 : rdB c cw ms len M a n = [] := by simp [rdB, hk, h4]
    rw [e1, accN_lt hk4]
    have HRD := Lib.hid (read_bad s c cw p len cap ms mp mc Q C M a n)
    have HK := Lib.hid hk
    obtain ⟨K, hK⟩ : ∃ K, M.length = K := ⟨_, rfl⟩
    rw [hK] at HRD ⊢
    clear hm hM hs ha e1 hk hle hK h4
    go_enter Tryd.func51, Tryd.ntmps51
    go_wp2_with (first
      | (go_at_call 61; refine (HRD.out _ (HS.out.below (HB1.out _)) (HM.out.alloc _) (HMM.out.alloc _) HA.out k HK.out hk4).mono ?_; rintro e w2 ⟨rfl, hb⟩)
      | (go_at_call 62; refine (twin_any none 0 [] _ (RowAt.nil _ _)).mono ?_; rintro e w3 ⟨rfl, hb3, _⟩)
      | (go_at_call 54; refine (number_any s k hk4 _ _ _ (HS.out.below (below_next (below1 hb) hb3))).mono ?_; rintro e w4 ⟨rfl, hb4⟩))
    go_ret2
    exact ⟨_, rfl, below_next (below_next (below1 hb) hb3) hb4, RowAt.nil _ _⟩
end Go.Proofs.YthckkdkijajadaaDoor
