/- Contract of the document's own Do, all ways under one head. -/
import Derived.Test.YthckkdkijajadaaDoorYX
import Derived.Test.YthckkdkijajadaaDoorYZ
namespace Go.Proofs.YthckkdkijajadaaDoor
open Go.RowKit M

theorem doT_plain {n : Int} {A : List Int} (hh : n = 1 ∨ n = 2 ∨ n = 5) (hl : cnt n ≤ A.length) : tdL (kd n 0) (kd n 1) (kd n 2) A (cnt n) = A.take (cnt n) := by
  have hk : isAddr (kd n 0) = false ∧ isAddr (kd n 1) = false ∧ isAddr (kd n 2) = false ∧ cnt n ≤ 3 := by rcases hh with rfl | rfl | rfl <;> decide
  refine List.ext_getElem (by simp [tdL]; omega) fun i h1 h2 => ?_
  have hi : i < cnt n := by simpa [tdL] using h1
  have h3 : isAddr (k3 (kd n 0) (kd n 1) (kd n 2) i) = false := by
    have e : i = 0 ∨ i = 1 ∨ i = 2 := by omega
    rcases e with rfl | rfl | rfl
    · exact hk.1
    · exact hk.2.1
    · exact hk.2.2.1
  have h4 : i < A.length := by omega
  simp [tdL, tdF, h3, h4]
theorem doT_two {n : Int} {A : List Int} (hh : n = 3 ∨ n = 4) : tdL (kd n 0) (kd n 1) (kd n 2) A (cnt n) = [0, A.getD 1 0] := by
  rcases hh with rfl | rfl <;> rfl
theorem answers_of {w : World} {sq : Option Addr} {S : List Int} (h : WordsAt w sq S) : S.length = 0 ∧ S.getD 0 0 = 0 ∨ 0 < S.length ∧ ∃ sb so, sq = some ⟨sb, so, none⟩ ∧ sb < w.heap.size ∧ w.cell? ⟨sb, so, none⟩ = some (.int .u64 (S.getD 0 0)) := by
  by_cases h0 : 0 < S.length
  · obtain ⟨b, o, rfl, hl, hc⟩ := h.cells 0 h0
    exact .inr ⟨h0, b, o, rfl, hl, by rw [Nat.add_zero] at hc; exact hc⟩
  · have e : S = [] := by cases S; rfl; simp at h0
    subst e
    exact .inl ⟨rfl, rfl⟩
theorem szC_le {x : Int} (h : 1 ≤ szC x ∧ szC x ≤ 64) : 1 ≤ x ∧ x ≤ 64 := by
  unfold szC at h; split at h <;> omega
theorem szC_bad {x : Int} (h : szC x < 1 ∨ 64 < szC x) : x < 1 ∨ 64 < x := by
  unfold szC at h; split at h <;> omega
theorem rcopy_new {mp : Option Addr} {mc : Nat} {Q : Nat → Option Addr} {C : Nat → Nat} {M : List (List Int)} {w : World} (h : MemAt w mp Q C M) (h24 : M.length * 24 ≤ 140737488351232) :
    Calls Tryd.prog 16 #[.slice mp M.length mc] w fun e w' => ∃ mp' mc' Q' C', e = .returned (.slice mp' M.length mc') ∧ Below w.heap.size w w' ∧ MemAt w' mp' Q' C' M ∧ ∀ ad, mp' = some ad → w.heap.size ≤ ad.block :=
  (copy_any mp mc Q C M w h h24).mono fun e w' ⟨v, B, C', he, hb, ho, hc⟩ => by
    obtain ⟨mp', mc', hv, hmem⟩ := copies_mem h.small h.rsmall h.byte ⟨rfl, fun _ => rfl⟩ ho hc
    refine ⟨mp', mc', _, C', by rw [he, hv], hb, hmem, fun ad e => ?_⟩
    subst e hv
    exact own_ge ho ad.block rfl

section
variable (s' : Nat → Addr) (c : Int) (cw : Bool) (p : Option Addr) (len cap : Nat) (ms : List Ar) (mp : Option Addr) (mc : Nat) (Q : Nat → Option Addr) (C : Nat → Nat) (M : List (List Int)) (n : Int) (q : Option Addr) (A : List Int) (cc : Nat) (sq : Option Addr) (S : List Int) (sc : Nat) (w : World)
theorem rdo_bad (k : Nat) (hk : k < 5) (h : Calls Tryd.prog 17 #[.agg #[.int .i64 c, .bool cw, .slice p len cap], .slice mp M.length mc, .int .i64 n, .slice q A.length cc, .slice sq S.length sc] w (DoPost 0 [] 0 [] [] (hnum k) w)) :
    Calls Tryd.prog 17 #[.agg #[.int .i64 c, .bool cw, .slice p len cap], .slice mp M.length mc, .int .i64 n, .slice q A.length cc, .slice sq S.length sc] w (DoPost (doV n A S k) (doR n A S c cw ms len M k) (doH n k) (doT n A k) (doD n A c cw ms len M k) (doE k) w) := by
  have h5 : k ≠ 5 := by omega
  simp only [doV, doR, doH, doT, doD, doE, if_neg h5]
  exact h
variable (hS : Sent w s') (hm : MapsAt w p len ms) (hM : MemAt w mp Q C M) (hA : WordsAt w q A) (hcc : A.length ≤ cc) (hSS : WordsAt w sq S)
include hS hm hM hA hcc hSS
theorem rdo_any (k : Nat) (hk : doK n A c cw ms len M = k) :
    Calls Tryd.prog 17 #[.agg #[.int .i64 c, .bool cw, .slice p len cap], .slice mp M.length mc, .int .i64 n, .slice q A.length cc, .slice sq S.length sc] w (DoPost (doV n A S k) (doR n A S c cw ms len M k) (doH n k) (doT n A k) (doD n A c cw ms len M k) (doE k) w) := by
  have bad := rdo_bad c cw p len cap ms mp mc M n q A cc sq S sc w
  have HSP := fun W (hb : Below w.heap.size w W) => rspans_any n q A cc W (hA.below hb)
  have HMY := fun W (hb : Below w.heap.size w W) => rmay_any s' c cw p len cap ms mp mc Q C M W (hS.below hb) (hm.below hb) (hM.below hb)
  have HTB := fun W => rtable_any n W
  unfold SpPost at HSP
  unfold doK at hk
  split at hk
  · rename_i hH
    subst hk
    have e : spOk n A = false := by simp [spOk, hH]
    simp only [spAt, spN, e, Bool.false_eq_true, false_and, if_false] at HSP
    exact bad 0 (by decide) (rdo_args c cw p len cap mp M.length mc n q A.length cc sq S.length sc w HSP)
  rename_i hH
  have hH' : isH n = true := by simpa using hH
  split at hk
  · rename_i hl
    subst hk
    have e : spOk n A = false := by simp [spOk, hl]
    simp only [spAt, spN, e, Bool.false_eq_true, false_and, if_false] at HSP
    exact bad 1 (by decide) (rdo_args c cw p len cap mp M.length mc n q A.length cc sq S.length sc w HSP)
  rename_i hl
  have hl' : cnt n ≤ A.length := by omega
  have e : spOk n A = true := by simp [spOk, hH', hl']
  simp only [spAt, spN, e, true_and] at HSP
  have hsm := hA.small
  have HTB2 : ∀ W, Calls Tryd.prog 12 #[.int .i64 n] W fun e w' => ∃ kp kc, e = .returned (.tuple #[.agg #[.string (nmB n), .slice kp (cnt n) kc, .int .i64 (most n)], .bool true]) ∧ Below W.heap.size W w' := fun W =>
    (HTB W).mono fun e w' ⟨kp, kc, he, hb, _⟩ => ⟨kp, kc, by rw [kinds_length, hH'] at he; exact he, hb⟩
  split at hk
  · rename_i h34
    have hc2 : cnt n = 2 := by rcases h34 with rfl | rfl <;> rfl
    rw [hc2] at hl'
    have hta := take2 hl'
    obtain ⟨b, o, rfl, hb0, c0⟩ := hA.cells 0 (by omega)
    obtain ⟨_, _, e, _, c1⟩ := hA.cells 1 (by omega)
    injection e with e
    injection e with e1 e2
    subst e1 e2
    rw [Nat.add_zero] at c0
    have hd0 := hA.bd 0 (by omega)
    have HAC := fun wf W (hb : Below w.heap.size w W) => raccess_any c cw p len cap ms (A.getD 0 0) (szC (A.getD 1 0)) wf W (hm.below hb) hd0
    split at hk
    · rename_i hsz
      subst hk
      rcases h34 with rfl | rfl
      · exact bad 2 (by decide) (rdo_size3 c cw p len cap mp M.length mc b o A.length cc sq S.length sc _ _ _ w hb0 hsm hl' c1 (szC_bad hsz) HSP)
      · exact bad 2 (by decide) (rdo_size4 c cw p len cap mp M.length mc b o A.length cc sq S.length sc _ _ _ w hb0 hsm hl' c1 (szC_bad hsz) HSP)
    rename_i hsz
    have hsz' : 1 ≤ szC (A.getD 1 0) ∧ szC (A.getD 1 0) ≤ 64 := by omega
    have hx := szC_le hsz'
    split at hk
    · rename_i hF
      subst hk
      have hE := fun wf (h : findK c cw ms len (A.getD 0 0) (szC (A.getD 1 0)) wf ≠ 4) => accN_ne (findK_le c cw ms len (A.getD 0 0) (szC (A.getD 1 0)) wf) h
      rcases h34 with rfl | rfl
      · exact bad 3 (by decide) (rdo_place3 c cw p len cap mp M.length mc b o A.length cc sq S.length sc _ _ _ _ w hb0 hsm hl' c1 hx.1 hx.2 (hE false hF) HSP (HAC false))
      · exact bad 3 (by decide) (rdo_place4 c cw p len cap mp M.length mc b o A.length cc sq S.length sc _ _ _ _ w hb0 hsm hl' c1 hx.1 hx.2 (hE true hF) HSP (HAC true))
    rename_i hF
    have hF' : findK c cw ms len (A.getD 0 0) (szC (A.getD 1 0)) (n == 4) = 4 := by simpa using hF
    have HAC2 := HAC (n == 4)
    rw [hF', accN_4] at HAC2
    split at hk
    · rename_i hmay
      subst hk
      rw [hmay] at HMY
      have hM10 := mayK hm.hlen hmay
      have HCP := fun W (hb : Below w.heap.size w W) => rcopy_new (mc := mc) (hM.below hb) (by omega)
      have hSA := answers_of hSS
      simp only [doV, doR, doH, doT, doD, doE, if_true]
      rcases h34 with rfl | rfl
      · rw [if_neg (by decide), if_neg (by decide), if_pos rfl, doT_two (.inl rfl)]
        exact rdo_send c cw p len cap mp mc M b o A cc sq S.length sc 2 (nmB 3) (most 3) (S.getD 0 0) w _ _ _ hb0 c0 c1 hA hl' rfl hta hcc hx.1 hx.2 _ _ hSA hSS.small HSP HAC2 HMY HTB2 HCP
          (fun W hb => rbytes_any s' c cw p len cap ms mp mc Q C M _ _ W (hS.below hb) (hm.below hb) (hM.below hb) hd0)
      · rw [if_neg (by decide), if_pos rfl, if_neg (by decide), doT_two (.inr rfl)]
        obtain ⟨nz, hnz⟩ : ∃ nz : Nat, szC (A.getD 1 0) = nz := ⟨(szC (A.getD 1 0)).toNat, by omega⟩
        have hsp : ∀ W, Below w.heap.size w W → Calls Tryd.prog 14 #[.int .i64 4, .slice (some ⟨b, o, none⟩) A.length cc] W fun e w' => e = .returned (.tuple #[.agg #[.int .u64 0, .int .i64 0], .agg #[.int .u64 (A.getD 0 0), .int .i64 nz], .bool true]) ∧ Below W.heap.size W w' := fun W hb => by
          have := HSP W hb
          rw [← hnz]
          exact this
        rw [hnz] at HAC2 ⊢
        exact rdo_recv c cw p len cap mp mc M b o A cc sq S.length sc 2 (nmB 4) (most 4) (S.getD 0 0) w _ _ nz hb0 c0 c1 hA hl' rfl hta hcc hx.1 hx.2 (by omega) (by omega) _ _ hSA hSS.small hsp HAC2 HMY HTB2 HCP
          (fun W bq bc hb hr => rfill_new s' c cw p len cap ms mp mc Q C M _ bq (repL (S.getD 0 0) nz) bc W (hS.below hb) (hm.below hb) (hM.below hb) hr hd0)
    · rename_i hmay
      subst hk
      rw [show mayB c ms len M = false by simpa using hmay] at HMY
      rcases h34 with rfl | rfl
      · exact bad 4 (by decide) (rdo_stray3 c cw p len cap mp M.length mc b o A.length cc sq S.length sc _ _ _ w hb0 hsm hl' c1 hx.1 hx.2 HSP HAC2 HMY)
      · exact bad 4 (by decide) (rdo_stray4 c cw p len cap mp M.length mc b o A.length cc sq S.length sc _ _ _ w hb0 hsm hl' c1 hx.1 hx.2 HSP HAC2 HMY)
  · rename_i h34
    have h125 : n = 1 ∨ n = 2 ∨ n = 5 := by have := isH_cases hH'; omega
    have h3 : n ≠ 3 := by omega
    have h4 : n ≠ 4 := by omega
    simp only [if_neg h3, if_neg h4] at HSP
    split at hk
    · rename_i hmay
      subst hk
      rw [hmay] at HMY
      have hM10 := mayK hm.hlen hmay
      have HCP := fun W (hb : Below w.heap.size w W) => rcopy_new (mc := mc) (hM.below hb) (by omega)
      have hSA := answers_of hSS
      simp only [doV, doR, doH, doT, doD, doE, if_true]
      rw [if_neg h4, if_neg h3, doT_plain h125 hl']
      by_cases h5 : n = 5
      · subst h5
        rw [if_pos rfl]
        have hl3 : 3 ≤ A.length := hl'
        obtain ⟨b, o, rfl, hb0, c0⟩ := hA.cells 0 (by omega)
        obtain ⟨_, _, e, _, c1⟩ := hA.cells 1 (by omega)
        injection e with e
        injection e with e1 e2
        subst e1 e2
        obtain ⟨_, _, e, _, c2⟩ := hA.cells 2 (by omega)
        injection e with e
        injection e with e1 e2
        subst e1 e2
        rw [Nat.add_zero] at c0
        have e : mixV (A.getD 0 0) (A.getD 1 0) (A.getD 2 0) (S.getD 0 0) = (IntKind.u64.wrap (IntKind.u64.wrap (IntKind.u64.wrap (A.getD 0 0 + IntKind.u64.wrap (A.getD 1 0 * 3)) + IntKind.u64.wrap (A.getD 2 0 * 5)) + S.getD 0 0)) := by
          rw [mixV, Int.mul_comm 3, Int.mul_comm 5]
        rw [e]
        exact rdo_mix c cw p len cap mp mc M b o A cc sq S.length sc 3 (nmB 5) (most 5) (S.getD 0 0) w _ _ _ hb0 c0 c1 c2 hA hl3 hl3 hcc hSA hSS.small HSP HMY HTB2 HCP
      · rw [if_neg h5]
        exact rdo_plain c cw p len cap mp mc M n q A cc sq S.length sc (cnt n) (nmB n) (most n) (S.getD 0 0) w h3 h4 h5 hA hl' hcc hSA hSS.small HSP HMY HTB2 HCP
    · rename_i hmay
      subst hk
      rw [show mayB c ms len M = false by simpa using hmay] at HMY
      exact bad 4 (by decide) (rdo_stray c cw p len cap mp M.length mc n q A.length cc sq S.length sc w h3 h4 HSP HMY)
end
end Go.Proofs.YthckkdkijajadaaDoor
