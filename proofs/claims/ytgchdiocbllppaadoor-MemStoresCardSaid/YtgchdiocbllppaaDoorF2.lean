/- Contract of read: the memory's own bytes of a span, or why not. -/
import Derived.Test.YtgchdiocbllppaaDoorF
import Derived.IntWalk
namespace Go.Proofs.YtgchdiocbllppaaDoor
open Go.RowKit M

/-- where a granted access lies -/
theorem granted {c : Int} {wr : Bool} {ms : List Ar} {len : Nat} {M : List (List Int)} {a n : Int} {write : Bool} (hl : len = ms.length) (hmay : mayB c ms len M = true) (hk : findK c wr ms len a n write = 4) :
    ∃ r o nn : Nat, regOf a - 1 = r ∧ offOf a = o ∧ n = nn ∧ 1 ≤ nn ∧ nn ≤ 4096 ∧ r < M.length ∧ o + nn ≤ (M.getD r []).length ∧ (M.getD r []).length ≤ 4096 := by
  obtain ⟨h1, h2, h3, _⟩ := findK_ok hk
  obtain ⟨g1, g2, g3⟩ := mayB_true hmay
  obtain ⟨e1, e2⟩ : okL c ms = true ∧ hasReg len (regOf a) = true := by simpa [areaB] using h2
  obtain ⟨f1, f2⟩ : 1 ≤ regOf a ∧ regOf a < 3 + (len : Int) := by simpa [hasReg] using e2
  have ho : 0 ≤ offOf a := by unfold offOf; omega
  have hA : areaR c wr ms len (regOf a) = areaOf c wr ms (regOf a) := by simp [areaR, e1, e2]
  obtain ⟨r, hr⟩ : ∃ r : Nat, regOf a - 1 = r := ⟨(regOf a - 1).toNat, by omega⟩
  have hr' : regOf a = (r : Int) + 1 := by omega
  have hs := g3 r (by omega)
  rw [hA, hr', szOf_eq] at h3
  refine ⟨r, (offOf a).toNat, n.toNat, hr, by omega, by omega, by omega, by omega, by omega, by omega, ?_⟩
  have hb := areaR_bd c wr ms len (regOf a) hl
  rw [hA, hr', szOf_eq] at hb
  omega

/-- a span's bytes -/
def cut (xs : List Int) (o n : Nat) : List Int := (xs.drop o).take n
theorem cut_length {xs : List Int} {o n : Nat} (h : o + n ≤ xs.length) : (cut xs o n).length = n := by simp [cut]; omega
theorem cut_getD {xs : List Int} {o n j : Nat} (hj : j < n) : (cut xs o n).getD j 0 = xs.getD (o + j) 0 := by
  simp [cut, hj]
theorem RowAt.cut {w : World} {b off : Nat} {xs : List Int} {o n : Nat} (h : RowAt w (some ⟨b, off, none⟩) xs) (hn : o + n ≤ xs.length) : RowAt w (some ⟨b, off + o, none⟩) (cut xs o n) := by
  refine ⟨by rw [cut_length hn]; have := h.small; omega, fun j hj => ?_, fun j hj => ?_⟩
  · rw [cut_length hn] at hj
    obtain ⟨b', off', e, hl, hc⟩ := h.cells (o + j) (by omega)
    injection e with e
    injection e with e1 e2
    subst e1 e2
    exact ⟨_, _, rfl, hl, by rw [cut_getD hj, Nat.add_assoc]; exact hc⟩
  · rw [cut_length hn] at hj
    rw [cut_getD hj]
    exact h.byte (o + j) (by omega)
theorem cell_new (w : World) {cs : Array Value} {t : TypeId} {fr : Nat × Nat} {i : Nat} {v : Value} (h : cs[i]? = some v) : (w.alloc (.cells cs t fr)).cell? ⟨w.heap.size, i, none⟩ = some v := by
  simp only [World.cell?, heap_new]
  exact h
theorem cell_new2 (w : World) (o : Obj) {cs : Array Value} {t : TypeId} {fr : Nat × Nat} {i : Nat} {v : Value} (_ : True) (h : cs[i]? = some v) : ((w.alloc o).alloc (.cells cs t fr)).cell? ⟨w.heap.size + 1, i, none⟩ = some v := by
  have := cell_new (w.alloc o) (t := t) (fr := fr) h
  rwa [World.size_alloc] at this
theorem below_drewN {B : Nat} {a w : World} (h : Below B a w) (n : Nat) : Below B a (w.drewN n) := ⟨h.os, h.tape, h.output, h.size, h.block⟩
def flt (s : Nat → Addr) (a n : Int) (k : Nat) : Value := .iface 92 (.agg #[.int .u64 a, .int .i64 n, .iface 110 (.pointer (some (s k)))])

set_option maxHeartbeats 1000000 in
theorem read_stray (s : Nat → Addr) (c : Int) (cw : Bool) (p : Option Addr) (len cap : Nat) (ms : List Ar) (mp : Option Addr) (mc : Nat) (Q : Nat → Option Addr) (C : Nat → Nat) (M : List (List Int)) (a n : Int) (w : World) (hs : Sent w s) (hm : MapsAt w p len ms) (hM : MemAt w mp Q C M)
    (hmay : mayB c ms len M = false) :
    Calls Tryd.prog 41 #[.agg #[.int .i64 c, .bool cw, .slice p len cap], .slice mp M.length mc, .agg #[.int .u64 a, .int .i64 n]] w fun e w' =>
      e = .returned (.tuple #[.slice none 0 0, flt s a n 0]) ∧ Below w.heap.size w w' := by
  have HM := Lib.hid hm
  have HMM := Lib.hid hM
  have HS := Lib.hid hs
  have HMAY := Lib.hid hmay
  clear hm hM hs hmay
  go_enter Tryd.func41, Tryd.ntmps41
  go_wp2_with (go_at_call 19; refine (may_is _ _ _ _ _ ms _ _ Q C M _ ((HM.out.alloc _).alloc _) ((HMM.out.alloc _).alloc _) HMAY.out).mono ?_; rintro e w1 ⟨rfl, hb⟩; obtain ⟨hc, hf⟩ := bcell hb; obtain ⟨z1, z2⟩ := two_in hb; have G := HS.out.glob1 0 (by omega))
  go_region
  all_goals
    go_wp2
    go_ret2
    exact ⟨rfl, (below2 hb).drew⟩
set_option maxHeartbeats 1000000 in
theorem read_err (s : Nat → Addr) (c : Int) (cw : Bool) (p : Option Addr) (len cap : Nat) (ms : List Ar) (mp : Option Addr) (mc : Nat) (Q : Nat → Option Addr) (C : Nat → Nat) (M : List (List Int)) (a n : Int) (w : World) (hs : Sent w s) (hm : MapsAt w p len ms) (hM : MemAt w mp Q C M)
    (ha : 0 ≤ a ∧ a < 18446744073709551616) (hmay : mayB c ms len M = true) (k : Nat) (hk : findK c cw ms len a n false = k) (hk4 : k < 4) :
    Calls Tryd.prog 41 #[.agg #[.int .i64 c, .bool cw, .slice p len cap], .slice mp M.length mc, .agg #[.int .u64 a, .int .i64 n]] w fun e w' =>
      e = .returned (.tuple #[.slice none 0 0, flt s a n k]) ∧ Below w.heap.size w w' := by
  have HM := Lib.hid hm
  have HMM := Lib.hid hM
  have HS := Lib.hid hs
  have HMAY := Lib.hid hmay
  have HA := Lib.hid ha
  have HK := Lib.hid hk
  clear hm hM hs hmay ha hk
  go_enter Tryd.func41, Tryd.ntmps41
  go_wp2_with (first
    | (go_at_call 19; refine (may_is _ _ _ _ _ ms _ _ Q C M _ ((HM.out.alloc _).alloc _) ((HMM.out.alloc _).alloc _) HMAY.out).mono ?_; rintro e w1 ⟨rfl, hb⟩; obtain ⟨hc, hf⟩ := bcell hb; obtain ⟨z1, z2⟩ := two_in hb)
    | (go_at_call 44; refine (find_err s _ _ _ _ _ ms _ _ _ _ (HS.out.below (below2 hb)) (HM.out.below (below2 hb)) HA.out k HK.out hk4).mono ?_; rintro e w2 ⟨rfl, hb2⟩))
  go_ret2
  exact ⟨rfl, (below_next (below2 hb) hb2).alloc (below_next (below2 hb) hb2).size _⟩

def ReadPost (M : List (List Int)) (a : Int) (n : Nat) (w : World) (e : Ending) (w' : World) : Prop :=
  ∃ b off qc, e = .returned (.tuple #[.slice (some ⟨b, off, none⟩) n qc, .nilIface]) ∧ Below w.heap.size w w' ∧ RowAt w' (some ⟨b, off, none⟩) (cut (M.getD (regOf a - 1).toNat []) (offOf a).toNat n)
set_option maxHeartbeats 1000000 in
theorem read_ok (s : Nat → Addr) (c : Int) (cw : Bool) (p : Option Addr) (len cap : Nat) (ms : List Ar) (mp : Option Addr) (mc : Nat) (Q : Nat → Option Addr) (C : Nat → Nat) (M : List (List Int)) (a n : Int) (w : World) (hs : Sent w s) (hm : MapsAt w p len ms) (hM : MemAt w mp Q C M)
    (ha : 0 ≤ a ∧ a < 18446744073709551616) (hmay : mayB c ms len M = true) (hk : findK c cw ms len a n false = 4) :
    Calls Tryd.prog 41 #[.agg #[.int .i64 c, .bool cw, .slice p len cap], .slice mp M.length mc, .agg #[.int .u64 a, .int .i64 n]] w (ReadPost M a n.toNat w) := by
  obtain ⟨r, o, nn, hr, ho, hn, hn1, hn2, hrM, hfit, hL⟩ := granted hm.hlen hmay hk
  obtain ⟨b, off, hmp, hbl, hcell, hLC, hC⟩ := hM.cells r hrM
  obtain ⟨b2, off2, hQ, hbl2, _⟩ := hM.rows r 0 hrM (by omega)
  have hrow := hM.row hrM
  rw [hQ] at hcell hrow
  have HPOST : Hid (∀ w', Below w.heap.size w w' → ∀ qc, ReadPost M a n.toNat w (.returned (.tuple #[.slice (some ⟨b2, off2 + o, none⟩) nn qc, .nilIface])) w') := by
    intro w' hb qc
    refine ⟨b2, off2 + o, qc, by rw [hn]; simp, hb, ?_⟩
    rw [hr, ho, hn]
    simpa using (hrow.cut hfit).below hb
  have HM := Lib.hid hm
  have HMM := Lib.hid hM
  have HS := Lib.hid hs
  have HMAY := Lib.hid hmay
  have HA := Lib.hid ha
  have HF := Lib.hid (find_fine s c cw p len cap ms a n false)
  have HK := Lib.hid hk
  obtain ⟨L, hLL⟩ : ∃ L, (M.getD r []).length = L := ⟨_, rfl⟩
  obtain ⟨K, hKK⟩ : ∃ K, M.length = K := ⟨_, rfl⟩
  have HMAYC := Lib.hid (may_is (v := true) c cw p len cap ms mp mc Q C M)
  rw [hKK] at HMAYC hrM ⊢
  rw [hLL] at hcell hfit hL hLC
  rw [hr, ho] at HF
  have hKs : K ≤ 140737488351232 := hKK ▸ hM.small
  subst hmp hn
  generalize C r = Cr at *
  clear hm hM hs hmay ha hk hr ho hQ hrow hLL hKK
  go_enter Tryd.func41, Tryd.ntmps41
  go_wp2_with (first
    | (go_at_call 19; refine (HMAYC.out _ ((HM.out.alloc _).alloc _) ((HMM.out.alloc _).alloc _) HMAY.out).mono ?_; rintro e w1 ⟨rfl, hb⟩; obtain ⟨hc, hf⟩ := bcell hb; obtain ⟨z1, z2⟩ := two_in hb)
    | (go_at_call 44; refine (HF.out _ (HS.out.below (below2 hb)) (HM.out.below (below2 hb)) HA.out HK.out).mono ?_; rintro e w2 ⟨rfl, hb2⟩; obtain ⟨hc2, hf2⟩ := bcell hb2; have hb12 := below_next (below2 hb) hb2))
  have e1 : ∀ o, (w2.alloc o).cell? ⟨b, off + r, none⟩ = some (.slice (some ⟨b2, off2, none⟩) L Cr) := fun o => ((hb12.alloc hb12.size o).cell (p := ⟨b, off + r, none⟩) hbl).trans hcell
  have e2 : ∀ o, (w2.alloc o).cell? ⟨w.heap.size + 1, 1, none⟩ = some (.int .i64 nn) := fun o => by
    rw [((Below.refl w2.heap.size w2).alloc (Nat.le_refl _) o).cell (p := ⟨w.heap.size + 1, 1, none⟩) (by show w.heap.size + 1 < _; exact Nat.lt_of_lt_of_le z2 hb2.size), hc2 _ _ z2, hc _ _ (by simp)]
    exact cell_new2 _ _ trivial rfl
  have HB := Lib.hid hb12
  clear hc hf hc2 hf2 hb hb2 z1 z2 hb12 hcell
  have w1 : IntKind.i64.wrap ((o : Int) + nn) = (o : Int) + nn := IntWalk.i64_in _ (by omega)
  have w2' : 0 ≤ (o : Int) + nn := by omega
  have w3 : ((o : Int) + nn).toNat = o + nn := by omega
  go_quiet (fail)
  go_wp2
  go_ret2
  exact HPOST.out _ (below_drewN (HB.out.alloc HB.out.size _) _) _
end Go.Proofs.YtgchdiocbllppaaDoor
