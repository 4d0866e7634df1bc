/- Contracts of write: another memory with bytes at a span, or why there is none. -/
import Derived.Test.YtgchdiocbllppaaDoorJ
import Derived.Deep.RegionLaw
namespace Go.Proofs.YtgchdiocbllppaaDoor
open Go.RowKit M

set_option maxHeartbeats 1000000 in
theorem write_stray (s : Nat → Addr) (c : Int) (cw : Bool) (p : Option Addr) (len cap : Nat) (ms : List Ar) (mp : Option Addr) (mc : Nat) (Q : Nat → Option Addr) (C : Nat → Nat) (M : List (List Int)) (a : Int) (bq : Option Addr) (bn bc : Nat) (w : World) (hs : Sent w s) (hm : MapsAt w p len ms) (hM : MemAt w mp Q C M)
    (hmay : mayB c ms len M = false) :
    Calls Tryd.prog 49 #[.agg #[.int .i64 c, .bool cw, .slice p len cap], .slice mp M.length mc, .int .u64 a, .slice bq bn bc] w fun e w' =>
      e = .returned (.tuple #[.slice none 0 0, flt s a bn 0]) ∧ Below w.heap.size w w' := by
  have HM := Lib.hid hm
  have HMM := Lib.hid hM
  have HS := Lib.hid hs
  have HMAY := Lib.hid hmay
  have HMAYC := Lib.hid (may_is (v := false) c cw p len cap ms mp mc Q C M)
  obtain ⟨K, hKK⟩ : ∃ K, M.length = K := ⟨_, rfl⟩
  rw [hKK] at HMAYC ⊢
  clear hm hM hs hmay hKK
  go_enter Tryd.func49, Tryd.ntmps49
  go_wp2_with (go_at_call 19; refine (HMAYC.out _ ((HM.out.alloc _).alloc _) ((HMM.out.alloc _).alloc _) HMAY.out).mono ?_; rintro e w1 ⟨rfl, hb⟩; obtain ⟨hc, hf⟩ := bcell hb; obtain ⟨z1, z2⟩ := two_in hb; have G := HS.out.glob1 0 (by omega))
  go_region
  all_goals
    go_wp2
    go_ret2
    exact ⟨rfl, (below2 hb).drew⟩

set_option maxHeartbeats 1000000 in
theorem write_err (s : Nat → Addr) (c : Int) (cw : Bool) (p : Option Addr) (len cap : Nat) (ms : List Ar) (mp : Option Addr) (mc : Nat) (Q : Nat → Option Addr) (C : Nat → Nat) (M : List (List Int)) (a : Int) (bq : Option Addr) (bn bc : Nat) (w : World) (hs : Sent w s) (hm : MapsAt w p len ms) (hM : MemAt w mp Q C M)
    (ha : 0 ≤ a ∧ a < 18446744073709551616) (hmay : mayB c ms len M = true) (k : Nat) (hk : findK c cw ms len a bn true = k) (hk4 : k < 4) :
    Calls Tryd.prog 49 #[.agg #[.int .i64 c, .bool cw, .slice p len cap], .slice mp M.length mc, .int .u64 a, .slice bq bn bc] w fun e w' =>
      e = .returned (.tuple #[.slice none 0 0, flt s a bn k]) ∧ Below w.heap.size w w' := by
  have HM := Lib.hid hm
  have HMM := Lib.hid hM
  have HS := Lib.hid hs
  have HMAY := Lib.hid hmay
  have HA := Lib.hid ha
  have HK := Lib.hid hk
  have HMAYC := Lib.hid (may_is (v := true) c cw p len cap ms mp mc Q C M)
  obtain ⟨K, hKK⟩ : ∃ K, M.length = K := ⟨_, rfl⟩
  rw [hKK] at HMAYC ⊢
  clear hm hM hs hmay hKK ha hk
  go_enter Tryd.func49, Tryd.ntmps49
  go_wp2_with (first
    | (go_at_call 19; refine (HMAYC.out _ ((HM.out.alloc _).alloc _) ((HMM.out.alloc _).alloc _) HMAY.out).mono ?_; rintro e w1 ⟨rfl, hb⟩; obtain ⟨hc, hf⟩ := bcell hb; obtain ⟨z1, z2⟩ := two_in hb)
    | (go_at_call 44; refine (find_err s _ _ _ _ _ ms _ _ _ _ (HS.out.below (below2 hb)) (HM.out.below (below2 hb)) HA.out k HK.out hk4).mono ?_; rintro e w2 ⟨rfl, hb2⟩))
  go_ret2
  exact ⟨rfl, (below_next (below2 hb) hb2).alloc (below_next (below2 hb) hb2).size _⟩

theorem oneRow_drew {w w' : World} {g : Nat} {o : Obj} (h : OneRow w.drew w' g o) : OneRow w w' g o := ⟨h.os, h.tape, h.output, h.size, h.other, h.row⟩
def WritePost (M : List (List Int)) (a : Int) (bs : List Int) (w : World) (e : Ending) (w' : World) : Prop :=
  ∃ g Q C, e = .returned (.tuple #[.slice (some ⟨g, 0, none⟩) M.length M.length, .nilIface]) ∧ Below w.heap.size w w' ∧ MemAt w' (some ⟨g, 0, none⟩) Q C (fillM M (regOf a - 1).toNat (offOf a).toNat bs)
set_option maxRecDepth 100000 in
set_option maxHeartbeats 2000000 in
theorem write_ok (s : Nat → Addr) (c : Int) (cw : Bool) (p : Option Addr) (len cap : Nat) (ms : List Ar) (mp : Option Addr) (mc : Nat) (Q : Nat → Option Addr) (C : Nat → Nat) (M : List (List Int)) (a : Int) (bq : Option Addr) (bs : List Int) (bc : Nat) (w : World) (hs : Sent w s) (hm : MapsAt w p len ms) (hM : MemAt w mp Q C M)
    (hbs : RowAt w bq bs) (ha : 0 ≤ a ∧ a < 18446744073709551616) (hmay : mayB c ms len M = true) (hk : findK c cw ms len a bs.length true = 4) :
    Calls Tryd.prog 49 #[.agg #[.int .i64 c, .bool cw, .slice p len cap], .slice mp M.length mc, .int .u64 a, .slice bq bs.length bc] w (WritePost M a bs w) := by
  obtain ⟨r, o, nn, hr, ho, hn, hn1, hn2, hrM, hfit, hL⟩ := granted hm.hlen hmay hk
  have hnn : bs.length = nn := by omega
  obtain ⟨b, off, hmp, hbl, _, _, _⟩ := hM.cells r hrM
  obtain ⟨b3, off3, hbq, _, _⟩ := hbs.cells 0 (by omega)
  obtain ⟨g1, g2, g3⟩ := mayB_true hmay
  have hK10 : M.length ≤ 10 := by have := (okL_parts g1).2.1; have := hm.hlen; omega
  have HM := Lib.hid hm
  have HMM := Lib.hid hM
  have HS := Lib.hid hs
  have HMAY := Lib.hid hmay
  have HA := Lib.hid ha
  have HBS := Lib.hid hbs
  have HF := Lib.hid (find_fine s c cw p len cap ms a bs.length true)
  have HK := Lib.hid hk
  have HMAYC := Lib.hid (may_is (v := true) c cw p len cap ms mp mc Q C M)
  have HPOST : Hid (∀ (g : Nat) (B : Nat → Nat) (w3 wr w' : World), Below w.heap.size w w3 → w.heap.size ≤ g → Twins w3 wr g M.length M.length M B → OneRow wr w' (B r) (.cells (bytesV (splice (M.getD r []) o bs)).toArray 5 (0, 0)) →
      WritePost M a bs w (.returned (.tuple #[.slice (some ⟨g, 0, none⟩) M.length M.length, .nilIface])) w') := by
    intro g B w3 wr w' h3 hg ht ho'
    refine ⟨g, fun i => some ⟨B i, 0, none⟩, fun i => (M.getD i []).length, rfl, ?_, ?_⟩
    · exact ho'.below (h3.trans (ht.below.mono hg)) (by have := ht.gt r hrM; omega)
    · rw [hr, ho]
      simpa using ht.mem hrM (by rw [hnn]; exact hfit) hM.byte hbs.byte hM.small hM.rsmall ho'
  obtain ⟨K, hKK⟩ : ∃ K, M.length = K := ⟨_, rfl⟩
  have HKK := Lib.hid hKK
  rw [hKK] at HMAYC HPOST hrM hK10 ⊢
  rw [hnn] at HF HK ⊢
  rw [hr, ho] at HF
  subst hmp hbq
  have hmk := run_make_row' (P := Tryd.prog) 28 36 (.slice none 0 0) 24 Tryd.underlying28 info36 rfl .i64 .i64 K (by omega) (by omega)
  have HNN := Lib.hid hnn
  have HFIT := Lib.hid hfit
  have HLL := Lib.hid hL
  clear hm hM hs hmay ha hk hr ho hbs hKK hn hnn g1 g2 g3 hfit hL
  go_enter Tryd.func49, Tryd.ntmps49
  go_wp2_with (first
    | (go_at_call 19; refine (HMAYC.out _ ((HM.out.alloc _).alloc _) ((HMM.out.alloc _).alloc _) HMAY.out).mono ?_; rintro e w1 ⟨rfl, hb⟩; obtain ⟨hc, hf⟩ := bcell hb; obtain ⟨z1, z2⟩ := two_in hb)
    | (go_at_call 44; refine (HF.out _ (HS.out.below (below2 hb)) (HM.out.below (below2 hb)) HA.out HK.out).mono ?_; rintro e w2 ⟨rfl, hb2⟩; obtain ⟨hc2, hf2⟩ := bcell hb2; have hb12 := below_next (below2 hb) hb2))
  have hb3 : Hid (∀ o, Below w.heap.size w (w2.alloc o)) := fun o => hb12.alloc hb12.size o
  have hspan : Hid (∀ o, (w2.alloc o).cell? ⟨w.heap.size + 1, 1, none⟩ = some (.int .i64 nn)) := fun o => by
    rw [((Below.refl w2.heap.size w2).alloc (Nat.le_refl _) o).cell (p := ⟨w.heap.size + 1, 1, none⟩) (by show w.heap.size + 1 < _; exact Nat.lt_of_lt_of_le z2 hb2.size), hc2 _ _ z2, hc _ _ (by simp)]
    exact cell_new2 _ _ trivial rfl
  have hsz2 := hb12.size
  clear hc hf hc2 hf2 hb hb2 z1 z2 hb12 hmk
  go_loopw [41] (fun i wr => ∃ (k : Nat) (B : Nat → Nat), k ≤ K ∧ i = .int .i64 k ∧ Hid (Twins (w2.alloc (.cells #[.int .i64 r, .int .i64 o] 83)) wr (w2.heap.size + 1) K k M B)) (fun i _ => K - (intOf i).toNat)
  case atStart =>
    refine ⟨0, fun _ => 0, Nat.zero_le _, rfl, (Below.refl _ _).alloc (by simp) _, (rowIs_made1 w2 _ _ _ _).congr (fun i _ => by simp), fun j hj => absurd hj (Nat.not_lt_zero _), fun j hj => absurd hj (Nat.not_lt_zero _), fun i j hi => absurd hi (Nat.not_lt_zero _)⟩
  case round =>
    obtain ⟨k, B, hk, rfl, HT⟩ := hrel
    have hbw : Below w.heap.size w wr := (hb3.out _).trans (HT.out.below.mono (by omega))
    by_cases hlt : k < K
    · obtain ⟨b', off', e, _, c1, _, _⟩ := (HMM.out.below hbw).cells k (by rw [HKK.out]; exact hlt)
      injection e with e
      injection e with e1 e2
      subst e1 e2
      have hrow := (HMM.out.below hbw).row (i := k) (by rw [HKK.out]; exact hlt)
      obtain ⟨R, hR⟩ : ∃ R, M.getD k [] = R := ⟨_, rfl⟩
      have hRs := hrow.small
      rw [hR] at c1 hrow hRs
      generalize Q k = q at c1 hrow
      generalize C k = qc at c1
      have HR := Lib.hid hR
      have HROW := Lib.hid hrow
      clear hR hrow
      go_wp2_with fail
      refine (twin_any _ _ _ _ HROW.out).mono ?_
      rintro e w5 ⟨rfl, hb5, hblk⟩
      have HB5 := Lib.hid hb5
      have HBLK := Lib.hid hblk
      have hrow5 := rowIs_below HT.out.row hb5 HT.out.row.lt
      have d1 := hrow5.cell hlt
      have d2 := hrow5.frozen k
      rw [if_neg (Nat.lt_irrefl k)] at d1
      clear hb5 hblk hrow5 c1
      go_wp2
      go_roundw
      case rel =>
        refine ⟨k + 1, upd B k wr.heap.size, by omega, by go_num, ?_⟩
        have := HT.out.snoc HB5.out (by rw [HR.out]; exact HBLK.out)
        rw [HR.out] at this
        exact this
      case measure => simp [intOf]; omega
    · have hkK : k = K := by omega
      subst hkK
      have HTF := HT
      have c0 := (HT.out.below.cell (p := ⟨w2.heap.size, 0, none⟩) (Nat.lt_succ_self _)).trans (cell_new w2 (i := 0) (v := .int .i64 r) rfl)
      have c1 := (HT.out.below.cell (p := ⟨w2.heap.size, 1, none⟩) (Nat.lt_succ_self _)).trans (cell_new w2 (i := 1) (v := .int .i64 o) rfl)
      have c2 := HT.out.row.cell hrM
      rw [if_pos hrM] at c2
      have hblk := HT.out.blk r hrM
      have hfit2 := HFIT.out
      have hL2 := HLL.out
      have HP2 := Lib.hid (fun w' => HPOST.out _ B _ wr w' (hb3.out _) (by omega) HT.out)
      obtain ⟨R, hR⟩ : ∃ R, M.getD r [] = R := ⟨_, rfl⟩
      rw [hR] at c2 hblk hfit2 hL2 HP2
      obtain ⟨L, hLR⟩ : ∃ L, R.length = L := ⟨_, rfl⟩
      rw [hLR] at c2 hfit2 hL2
      generalize B r = Br at c2 hblk HP2
      have s1 := Lib.hid hblk
      have s2 : Hid ((bytesV bs).length = Nat.min nn (L - o)) := by show _ = min nn (L - o); rw [bytesV_length, HNN.out]; omega
      have s3 : Hid (∀ j v, (bytesV bs)[j]? = some v → wr.cell? ((⟨b3, off3, none⟩ : Addr).add j) = some v) := by
        obtain ⟨ad, e, h⟩ := (HBS.out.below hbw).src (by rw [HNN.out]; omega)
        injection e with e
        subst e
        exact h
      have s4 : Hid (o + (bytesV bs).length ≤ (bytesV R).length) := by show _ ≤ _; rw [bytesV_length, bytesV_length, HNN.out, hLR]; exact hfit2
      have hoL1 : o ≤ L := by omega
      have hoL2 : ¬ L = o := by omega
      have HLR := Lib.hid hLR
      clear hblk hR hLR HT HTF
      go_wp2
      go_region_law (refine step_copy_one rfl (.tmp 60) (.tmp 61) 36 36 rfl 5 Tryd.underlying36 size5 Br o (L - o) (L - o) ⟨b3, off3, none⟩ nn bc (by simp [Act.eval, Act.put]) (by simp [Act.eval, Act.put]) (bytesV R) 5 s1.out (bytesV bs) s2.out s3.out s4.out (bytesV_one bs) ?_; intro w9 hone; have HONE := Lib.hid (oneRow_drew hone); clear hone)
      all_goals
        go_wp2
        go_ret2
        exact HP2.out _ (by rw [← bytesV_splice]; exact HONE.out)
end Go.Proofs.YtgchdiocbllppaaDoor
