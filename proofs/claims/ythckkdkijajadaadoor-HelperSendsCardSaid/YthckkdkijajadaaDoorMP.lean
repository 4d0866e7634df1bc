/- Contract of Do, all ways under one head. -/
import Derived.Test.YthckkdkijajadaaDoorYN

/- Contract of Do, all ways under one head. -/
namespace Go.Proofs.YthckkdkijajadaaDoor
open Go.RowKit M

/-- why a call is refused: 0 no such helper, 1 too few arguments, 2 a size, 3 a place, 4 a memory of another layout; 5: it is done -/
def doK (n : Int) (A : List Int) (c : Int) (cw : Bool) (ms : List Ar) (len : Nat) (M : List (List Int)) : Nat :=
  if isH n = false then 0 else if A.length < cnt n then 1
  else if n = 3 ∨ n = 4 then
    (if szC (A.getD 1 0) < 1 ∨ 64 < szC (A.getD 1 0) then 2 else if findK c cw ms len (A.getD 0 0) (szC (A.getD 1 0)) (n == 4) ≠ 4 then 3 else if mayB c ms len M = true then 5 else 4)
  else if mayB c ms len M = true then 5 else 4
def doE (k : Nat) : Int := if k = 5 then 0 else hnum k
def doV (n : Int) (A S : List Int) (k : Nat) : Int := if k = 5 then (if n = 5 then mixV (A.getD 0 0) (A.getD 1 0) (A.getD 2 0) (S.getD 0 0) else S.getD 0 0) else 0
def doR (n : Int) (A S : List Int) (c : Int) (cw : Bool) (ms : List Ar) (len : Nat) (M : List (List Int)) (k : Nat) : List (List Int) := if k = 5 then (if n = 4 then flM c cw ms len M (A.getD 0 0) (repL (S.getD 0 0) (szC (A.getD 1 0)).toNat) else M) else []
def doH (n : Int) (k : Nat) : Int := if k = 5 then n else 0
def doT (n : Int) (A : List Int) (k : Nat) : List Int := if k = 5 then tdL (kd n 0) (kd n 1) (kd n 2) A (cnt n) else []
def doD (n : Int) (A : List Int) (c : Int) (cw : Bool) (ms : List Ar) (len : Nat) (M : List (List Int)) (k : Nat) : List Int := if k = 5 then (if n = 3 then rdB c cw ms len M (A.getD 0 0) (szC (A.getD 1 0)) else []) else []
theorem tdL_take (k0 k1 k2 : Int) (A : List Int) (k : Nat) : tdL k0 k1 k2 (A.take k) k = tdL k0 k1 k2 A k := by
  refine List.map_congr_left fun i hi => ?_
  have : i < k := List.mem_range.1 hi
  simp [tdF, this]
theorem take2 {A : List Int} (h : 2 ≤ A.length) : A.take 2 = [A.getD 0 0, A.getD 1 0] := by
  match A, h with
  | [_], h => simp at h
  | _ :: _ :: _, _ => rfl
theorem mayK {c : Int} {ms : List Ar} {len : Nat} {M : List (List Int)} (hl : len = ms.length) (h : mayB c ms len M = true) : M.length ≤ 10 := by
  obtain ⟨h1, h2, _⟩ := mayB_true h
  have := (okL_parts h1).2.1
  omega
theorem words_some {w : World} {q : Option Addr} {A : List Int} (h : WordsAt w q A) (hn : 0 < A.length) : ∃ b o, q = some ⟨b, o, none⟩ := by
  obtain ⟨b, o, e, _⟩ := h.cells 0 hn
  exact ⟨b, o, e⟩

section
variable (s s' : Nat → Addr) (c : Int) (cw : Bool) (p : Option Addr) (len cap : Nat) (ms : List Ar) (mp : Option Addr) (mc : Nat) (Q : Nat → Option Addr) (C : Nat → Nat) (M : List (List Int)) (n : Int) (q : Option Addr) (A : List Int) (cc : Nat) (sq : Option Addr) (S : List Int) (sc : Nat) (w : World)
  (hs : HSent w s) (hS : Sent w s') (hm : MapsAt w p len ms) (hM : MemAt w mp Q C M) (hA : WordsAt w q A) (hcc : A.length ≤ cc) (hSS : WordsAt w sq S) (hn : (Lit.int .i64 n).wf = true)
include hm hM hA hcc hSS hn

theorem do_simple (hh : n = 1 ∨ n = 2 ∨ n = 5) (hl : cnt n ≤ A.length) (hmay : mayB c ms len M = true) :
    Calls Tryd.prog 9 #[.agg #[.int .i64 c, .bool cw, .slice p len cap], .slice mp M.length mc, .int .i64 n, .slice q A.length cc, .slice sq S.length sc] w (DoPost (doV n A S 5) M n (tdL (kd n 0) (kd n 1) (kd n 2) A (cnt n)) [] 0 w) := by
  have hH : isH n = true := by rcases hh with rfl | rfl | rfl <;> rfl
  have hk : isAddr (kd n 0) = false ∧ isAddr (kd n 1) = false ∧ isAddr (kd n 2) = false ∧ idx3 (kd n 0) (kd n 1) (kd n 2) 2 = -1 ∧ idx3 (kd n 0) (kd n 1) (kd n 2) 3 = -1 ∧ cnt n ≤ 3 := by
    rcases hh with rfl | rfl | rfl <;> decide
  have hl2 : (A.take (cnt n)).length = cnt n := by simp; omega
  refine do_fine c cw p len cap mp M.length mc n q A.length cc sq S.length sc (nmB n) (kd n 0) (kd n 1) (kd n 2) (most n) (cnt n) (S.getD 0 0) _ M _ [] w
    (fun W hb => take_ok n q A.length cc W hn hH hl hcc)
    (fun W hb => may_plain_ok _ _ _ _ _ _ _ _ _ c cw p len cap ms mp mc Q C M W (hm.below hb) (hM.below hb) hk.1 hk.2.1 hk.2.2.1 hmay)
    (fun W hb => first_any sq S sc W (hSS.below hb)) (fun W hb => ?_)
    (fun W hb => after_plain _ _ _ _ _ _ _ _ _ c cw p len cap mp mc Q C M _ W (hM.below hb) (mayK hm.hlen hmay) hk.2.2.2.2.1) (fun W hb => ?_)
  · unfold doV
    by_cases h5 : n = 5
    · subst h5
      rw [if_pos rfl, if_pos rfl]
      have hl3 : 3 ≤ A.length := hl
      have hAW := hA.below hb
      obtain ⟨b, o, rfl, hbl, c0⟩ := hAW.cells 0 (by omega)
      obtain ⟨_, _, e, _, c1⟩ := hAW.cells 1 (by omega)
      injection e with e
      injection e with e1 e2
      subst e1 e2
      obtain ⟨_, _, e, _, c2⟩ := hAW.cells 2 (by omega)
      injection e with e
      injection e with e1 e2
      subst e1 e2
      exact value_mix _ _ _ _ _ b o (cnt 5) cc _ _ _ _ W hbl (by decide) (by decide) c0 c1 c2
    · rw [if_pos rfl, if_neg h5]
      exact value_given _ _ _ _ _ n q (cnt n) cc _ W h5
  · have h := told_plain (nmB n) (kd n 0) (kd n 1) (kd n 2) (most n) n q (A.take (cnt n)) cc c cw p len cap mp M.length mc W ((hA.below hb).take _) (by rw [hl2]; exact hk.2.2.2.2.2) hk.2.2.2.1
    rw [hl2, tdL_take] at h
    exact h
include hS
theorem do_send (hl : 2 ≤ A.length) (hsz : 1 ≤ szC (A.getD 1 0) ∧ szC (A.getD 1 0) ≤ 64) (hK : findK c cw ms len (A.getD 0 0) (szC (A.getD 1 0)) false = 4) (hmay : mayB c ms len M = true) (h3 : n = 3) (hs : HSent w s) :
    Calls Tryd.prog 9 #[.agg #[.int .i64 c, .bool cw, .slice p len cap], .slice mp M.length mc, .int .i64 n, .slice q A.length cc, .slice sq S.length sc] w (DoPost (S.getD 0 0) M n (tdL (kd n 0) (kd n 1) (kd n 2) A (cnt n)) (rdB c cw ms len M (A.getD 0 0) (szC (A.getD 1 0))) 0 w) := by
  subst h3
  obtain ⟨b, o, rfl⟩ := words_some hA (by omega)
  have hl2 : (A.take 2).length = 2 := by simp; omega
  refine do_fine c cw p len cap mp M.length mc 3 _ A.length cc sq S.length sc (nmB 3) (kd 3 0) (kd 3 1) (kd 3 2) (most 3) (cnt 3) (S.getD 0 0) _ M _ _ w
    (fun W hb => take_ok 3 _ A.length cc W hn rfl hl hcc)
    (fun W hb => ?_)
    (fun W hb => first_any sq S sc W (hSS.below hb)) (fun W hb => value_given _ _ _ _ _ 3 _ _ _ _ W (by decide))
    (fun W hb => after_plain _ _ _ _ _ _ _ _ _ c cw p len cap mp mc Q C M _ W (hM.below hb) (mayK hm.hlen hmay) (by decide)) (fun W hb => ?_)
  · have h := may_fine s s' false (nmB 3) 2 4 0 64 3 b o (A.take 2) cc c cw p len cap ms mp mc Q C M _ _ W (hs.below hb) (hS.below hb) (hm.below hb) (hM.below hb) ((hA.below hb).take 2) (take2 hl) rfl rfl rfl rfl hsz hK hmay
    rw [hl2] at h
    exact h
  · have h := told_read s' (nmB 3) 4 0 64 3 b o (A.take 2) cc c cw p len cap ms mp mc Q C M _ _ W (hS.below hb) (hm.below hb) (hM.below hb) ((hA.below hb).take 2) (take2 hl) (by omega)
    rw [hl2, tdL_take] at h
    exact h
theorem do_recv (hl : 2 ≤ A.length) (hsz : 1 ≤ szC (A.getD 1 0) ∧ szC (A.getD 1 0) ≤ 64) (hK : findK c cw ms len (A.getD 0 0) (szC (A.getD 1 0)) true = 4) (hmay : mayB c ms len M = true) (h4 : n = 4) (hs : HSent w s) :
    Calls Tryd.prog 9 #[.agg #[.int .i64 c, .bool cw, .slice p len cap], .slice mp M.length mc, .int .i64 n, .slice q A.length cc, .slice sq S.length sc] w (DoPost (S.getD 0 0) (flM c cw ms len M (A.getD 0 0) (repL (S.getD 0 0) (szC (A.getD 1 0)).toNat)) n (tdL (kd n 0) (kd n 1) (kd n 2) A (cnt n)) [] 0 w) := by
  subst h4
  obtain ⟨b, o, rfl⟩ := words_some hA (by omega)
  have hl2 : (A.take 2).length = 2 := by simp; omega
  refine do_fine c cw p len cap mp M.length mc 4 _ A.length cc sq S.length sc (nmB 4) (kd 4 0) (kd 4 1) (kd 4 2) (most 4) (cnt 4) (S.getD 0 0) _ _ _ [] w
    (fun W hb => take_ok 4 _ A.length cc W hn rfl hl hcc)
    (fun W hb => ?_)
    (fun W hb => first_any sq S sc W (hSS.below hb)) (fun W hb => value_given _ _ _ _ _ 4 _ _ _ _ W (by decide))
    (fun W hb => ?_) (fun W hb => ?_)
  · have h := may_fine s s' true (nmB 4) 3 4 0 64 4 b o (A.take 2) cc c cw p len cap ms mp mc Q C M _ _ W (hs.below hb) (hS.below hb) (hm.below hb) (hM.below hb) ((hA.below hb).take 2) (take2 hl) rfl rfl rfl rfl hsz hK hmay
    rw [hl2] at h
    exact h
  · have h := after_write s' (nmB 4) 4 0 64 4 b o (A.take 2) cc c cw p len cap ms mp mc Q C M (S.getD 0 0) _ _ (szC (A.getD 1 0)).toNat W (hS.below hb) (hm.below hb) (hM.below hb) ((hA.below hb).take 2) (take2 hl) (by omega) (by omega) (by omega)
    rw [hl2] at h
    exact h
  · have h := told_plain (nmB 4) 3 4 0 64 4 _ (A.take 2) cc c cw p len cap mp M.length mc W ((hA.below hb).take 2) (by rw [hl2]; decide) (by decide)
    rw [hl2, tdL_take] at h
    exact h
end
end Go.Proofs.YthckkdkijajadaaDoor

/- Contract of Do, all ways under one head: the last step. -/
namespace Go.Proofs.YthckkdkijajadaaDoor
open Go.RowKit M

section
variable (s s' : Nat → Addr) (c : Int) (cw : Bool) (p : Option Addr) (len cap : Nat) (ms : List Ar) (mp : Option Addr) (mc : Nat) (Q : Nat → Option Addr) (C : Nat → Nat) (M : List (List Int)) (n : Int) (q : Option Addr) (A : List Int) (cc : Nat) (sq : Option Addr) (S : List Int) (sc : Nat) (w : World)
  (hs : HSent w s) (hS : Sent w s') (hm : MapsAt w p len ms) (hM : MemAt w mp Q C M) (hA : WordsAt w q A) (hcc : A.length ≤ cc) (hSS : WordsAt w sq S) (hn : (Lit.int .i64 n).wf = true)
theorem do_bad (k : Nat) (hk : k < 5) (h : Calls Tryd.prog 9 #[.agg #[.int .i64 c, .bool cw, .slice p len cap], .slice mp M.length mc, .int .i64 n, .slice q A.length cc, .slice sq S.length sc] w (DoPost 0 [] 0 [] [] (hnum k) w)) :
    Calls Tryd.prog 9 #[.agg #[.int .i64 c, .bool cw, .slice p len cap], .slice mp M.length mc, .int .i64 n, .slice q A.length cc, .slice sq S.length sc] w (DoPost (doV n A S k) (doR n A S c cw ms len M k) (doH n k) (doT n A k) (doD n A c cw ms len M k) (doE k) w) := by
  have h5 : k ≠ 5 := by omega
  simp only [doV, doR, doH, doT, doD, doE, if_neg h5]
  exact h
include hs hS hm hM hA hcc hn
theorem do_two (hH : isH n = true) (hl : cnt n ≤ A.length) (wf : Bool) (hwf : (kd n 0 == 3) = wf) (h34 : n = 3 ∨ n = 4) (k : Nat)
    (hk : (if szC (A.getD 1 0) < 1 ∨ 64 < szC (A.getD 1 0) then 2 else if findK c cw ms len (A.getD 0 0) (szC (A.getD 1 0)) wf ≠ 4 then 3 else if mayB c ms len M = true then 5 else 4) = k) (hk5 : k ≠ 5) :
    Calls Tryd.prog 9 #[.agg #[.int .i64 c, .bool cw, .slice p len cap], .slice mp M.length mc, .int .i64 n, .slice q A.length cc, .slice sq S.length sc] w (DoPost 0 [] 0 [] [] (hnum k) w) := by
  have hc2 : cnt n = 2 := by rcases h34 with rfl | rfl <;> rfl
  have hm64 : most n = 64 := by rcases h34 with rfl | rfl <;> rfl
  have hi0 : isAddr (kd n 0) = true := by rcases h34 with rfl | rfl <;> rfl
  have hi1 : isAddr (kd n 1) = false := by rcases h34 with rfl | rfl <;> rfl
  have hi2 : isAddr (kd n 2) = false := by rcases h34 with rfl | rfl <;> rfl
  rw [hc2] at hl
  obtain ⟨b, o, rfl⟩ := words_some hA (by omega)
  have hl2 : (A.take 2).length = 2 := by simp; omega
  have HTK : ∀ W, Below w.heap.size w W → Calls Tryd.prog 25 #[.int .i64 n, .slice (some ⟨b, o, none⟩) A.length cc] W fun e w' => e = .returned (.tuple #[.agg #[.string (nmB n), .int .i64 (kd n 0), .int .i64 (kd n 1), .int .i64 (kd n 2), .int .i64 (most n), .int .i64 n, .slice (some ⟨b, o, none⟩) (cnt n) cc], .nilIface]) ∧ Below W.heap.size W w' :=
    fun W hb => take_ok n _ A.length cc W hn hH (by omega) hcc
  split at hk
  · rename_i hsz
    subst hk
    refine do_may_bad s 2 (by decide) c cw p len cap mp M.length mc n _ A.length cc sq S.length sc (nmB n) (kd n 0) (kd n 1) (kd n 2) (most n) (cnt n) w hs HTK (fun W hb => ?_)
    have h := may_size s s' wf (nmB n) (kd n 0) (kd n 1) (kd n 2) (most n) n b o (A.take 2) cc c cw p len cap ms mp mc Q C M _ _ W (hs.below hb) (hS.below hb) (hm.below hb) (hM.below hb) ((hA.below hb).take 2) (take2 hl) hi0 hi1 hi2 hwf (by rw [hm64]; exact hsz)
    rw [hl2] at h
    rw [hc2]
    exact h
  · rename_i hsz
    have hsz' : 1 ≤ szC (A.getD 1 0) ∧ szC (A.getD 1 0) ≤ most n := by omega
    split at hk
    · rename_i hF
      subst hk
      refine do_may_bad s 3 (by decide) c cw p len cap mp M.length mc n _ A.length cc sq S.length sc (nmB n) (kd n 0) (kd n 1) (kd n 2) (most n) (cnt n) w hs HTK (fun W hb => ?_)
      have h := may_place s s' wf (nmB n) (kd n 0) (kd n 1) (kd n 2) (most n) n b o (A.take 2) cc c cw p len cap ms mp mc Q C M _ _ W (hs.below hb) (hS.below hb) (hm.below hb) (hM.below hb) ((hA.below hb).take 2) (take2 hl) hi0 hi1 hi2 hwf hsz' hF
      rw [hl2] at h
      rw [hc2]
      exact h
    · rename_i hF
      have hF' : findK c cw ms len (A.getD 0 0) (szC (A.getD 1 0)) wf = 4 := by simpa using hF
      split at hk
      · omega
      · rename_i hmay
        subst hk
        refine do_may_bad s 4 (by decide) c cw p len cap mp M.length mc n _ A.length cc sq S.length sc (nmB n) (kd n 0) (kd n 1) (kd n 2) (most n) (cnt n) w hs HTK (fun W hb => ?_)
        have h := may_stray s s' wf (nmB n) (kd n 0) (kd n 1) (kd n 2) (most n) n b o (A.take 2) cc c cw p len cap ms mp mc Q C M _ _ W (hs.below hb) (hS.below hb) (hm.below hb) (hM.below hb) ((hA.below hb).take 2) (take2 hl) hi0 hi1 hi2 hwf hsz' hF' (by simpa using hmay)
        rw [hl2] at h
        rw [hc2]
        exact h
include hSS
theorem do_any (k : Nat) (hk : doK n A c cw ms len M = k) :
    Calls Tryd.prog 9 #[.agg #[.int .i64 c, .bool cw, .slice p len cap], .slice mp M.length mc, .int .i64 n, .slice q A.length cc, .slice sq S.length sc] w (DoPost (doV n A S k) (doR n A S c cw ms len M k) (doH n k) (doT n A k) (doD n A c cw ms len M k) (doE k) w) := by
  have bad := do_bad c cw p len cap ms mp mc M n q A cc sq S sc w
  unfold doK at hk
  split at hk
  · rename_i hH
    subst hk
    exact bad 0 (by decide) (do_take_bad s 0 (by decide) c cw p len cap mp M.length mc n q A.length cc sq S.length sc w hs (fun W hb => take_none s n q A.length cc W (hs.below hb) hn hH))
  · rename_i hH
    have hH' : isH n = true := by simpa using hH
    split at hk
    · rename_i hl
      subst hk
      exact bad 1 (by decide) (do_take_bad s 1 (by decide) c cw p len cap mp M.length mc n q A.length cc sq S.length sc w hs (fun W hb => take_few s n q A.length cc W (hs.below hb) hn hH' hl))
    · rename_i hl
      have hl' : cnt n ≤ A.length := by omega
      split at hk
      · rename_i h34
        have hwf : (kd n 0 == 3) = (n == 4) := by rcases h34 with rfl | rfl <;> rfl
        by_cases hk5 : k = 5
        · subst hk5
          have hc2 : cnt n = 2 := by rcases h34 with rfl | rfl <;> rfl
          split at hk
          · omega
          · rename_i hsz
            split at hk
            · omega
            · rename_i hF
              split at hk
              · rename_i hmay
                have hF' : findK c cw ms len (A.getD 0 0) (szC (A.getD 1 0)) (n == 4) = 4 := by simpa using hF
                have hsz' : 1 ≤ szC (A.getD 1 0) ∧ szC (A.getD 1 0) ≤ 64 := by omega
                simp only [doV, doR, doH, doT, doD, doE, if_true]
                rcases h34 with h3 | h4
                · rw [if_neg (by omega), if_neg (by omega), if_pos h3]
                  rw [show (n == 4) = false by simp [h3]] at hF'
                  exact do_send s s' c cw p len cap ms mp mc Q C M n q A cc sq S sc w hS hm hM hA hcc hSS hn (by omega) hsz' hF' hmay h3 hs
                · rw [if_neg (by omega), if_pos h4, if_neg (by omega)]
                  rw [show (n == 4) = true by simp [h4]] at hF'
                  exact do_recv s s' c cw p len cap ms mp mc Q C M n q A cc sq S sc w hS hm hM hA hcc hSS hn (by omega) hsz' hF' hmay h4 hs
              · omega
        · have hk4 : k < 5 := by (repeat' split at hk) <;> omega
          exact bad k hk4 (do_two s s' c cw p len cap ms mp mc Q C M n q A cc sq S sc w hs hS hm hM hA hcc hn hH' hl' (n == 4) hwf h34 k hk hk5)
      · rename_i h34
        have h125 : n = 1 ∨ n = 2 ∨ n = 5 := by have := isH_cases hH'; omega
        split at hk
        · rename_i hmay
          subst hk
          simp only [doR, doH, doT, doD, doE, if_true]
          rw [if_neg (by omega), if_neg (by omega)]
          exact do_simple c cw p len cap ms mp mc Q C M n q A cc sq S sc w hm hM hA hcc hSS hn h125 hl' hmay
        · rename_i hmay
          subst hk
          have hkk : isAddr (kd n 0) = false ∧ isAddr (kd n 1) = false ∧ isAddr (kd n 2) = false := by rcases h125 with rfl | rfl | rfl <;> decide
          exact bad 4 (by decide) (do_may_bad s 4 (by decide) c cw p len cap mp M.length mc n q A.length cc sq S.length sc (nmB n) (kd n 0) (kd n 1) (kd n 2) (most n) (cnt n) w hs (fun W hb => take_ok n q A.length cc W hn hH' hl' hcc)
            (fun W hb => may_plain_no s (nmB n) (kd n 0) (kd n 1) (kd n 2) (most n) n q (cnt n) cc c cw p len cap ms mp mc Q C M W (hm.below hb) (hM.below hb) hkk.1 hkk.2.1 hkk.2.2 (by simpa using hmay) (hs.below hb)))
end
end Go.Proofs.YthckkdkijajadaaDoor
