/- States: the document's own Store where something may not be; plain facts on its loop. -/
import Derived.Test.YtdipmlamjjpcoaaSP
namespace Go.Proofs.Ytdipmlamjjpcoaa
open Go.RowKit
attribute [local go_sem] b_and b_or b_xor b_andNot b_low b_top b_most b_signed b_unsigned b_zero b_eq s_eq b_nzero b_neq s_neq b_max b_min s_max s_min
attribute [local go_sem ↓] Go.wp_at_zero Go.wp_at_succ

/-- what is saved when the loop has come to byte k -/
def vAt (v : List Kn) (a k : Nat) : List Kn := if k = a then v else clearK v a k
theorem vAt_len (v : List Kn) (a k : Nat) : (vAt v a k).length = v.length := by
  unfold vAt
  split
  · rfl
  · simp [clearK]
theorem vAt_step (v : List Kn) {a k : Nat} (hk : a ≤ k) : vAt v a (k + 1) = (vAt v a k).set (k / 8) kzero := by
  unfold vAt
  rw [if_neg (by omega)]
  apply List.ext_getElem?
  intro j
  by_cases e : k = a
  · subst e
    rw [if_pos rfl, List.getElem?_set]
    simp only [clearK, List.getElem?_mapIdx]
    by_cases hj : k / 8 = j
    · rw [if_pos hj]
      by_cases hl : k / 8 < v.length
      · rw [if_pos hl, List.getElem?_eq_getElem (by omega)]
        simp only [Option.map_some]
        rw [if_pos (by omega)]
      · rw [if_neg hl, List.getElem?_eq_none (by omega)]; rfl
    · rw [if_neg hj]
      cases v[j]? with
      | none => rfl
      | some x => simp only [Option.map_some]; rw [if_neg (by omega)]
  · rw [if_neg e, List.getElem?_set]
    simp only [clearK, List.getElem?_mapIdx, List.length_mapIdx]
    by_cases hj : k / 8 = j
    · rw [if_pos hj]
      by_cases hl : k / 8 < v.length
      · rw [if_pos hl, List.getElem?_eq_getElem (by omega)]
        simp only [Option.map_some]
        rw [if_pos (by omega)]
      · rw [if_neg hl, List.getElem?_eq_none (by omega)]; rfl
    · rw [if_neg hj]
      cases v[j]? with
      | none => rfl
      | some x =>
        simp only [Option.map_some]
        by_cases c : 8 * j < k ∧ a < 8 * j + 8
        · rw [if_pos c, if_pos (by omega)]
        · rw [if_neg c, if_neg (by omega)]
theorem fillT_step (l : List Bool) {a k : Nat} (hk : a ≤ k) : fillT l a (k + 1 - a) = (fillT l a (k - a)).set k true := by
  apply List.ext_getElem?
  intro j
  rw [List.getElem?_set]
  simp only [fillT, List.getElem?_mapIdx, List.length_mapIdx]
  by_cases hj : k = j
  · subst hj
    rw [if_pos rfl]
    by_cases hl : k < l.length
    · rw [if_pos hl, List.getElem?_eq_getElem hl]
      simp
      omega
    · rw [if_neg hl, List.getElem?_eq_none (by omega)]; rfl
  · rw [if_neg hj]
    cases l[j]? with
    | none => rfl
    | some x =>
      simp only [Option.map_some, Option.some.injEq]
      congr 2
      simp only [decide_eq_decide]
      omega
theorem fillT_zero (l : List Bool) (a : Nat) : fillT l a 0 = l := by
  unfold fillT
  apply List.ext_getElem?
  intro j
  rw [List.getElem?_mapIdx]
  cases l[j]? with
  | none => rfl
  | some x => simp; omega
theorem fillT_len (l : List Bool) (a n : Nat) : (fillT l a n).length = l.length := by simp [fillT]
set_option maxRecDepth 100000 in
set_option maxHeartbeats 1000000 in
theorem rstore_p (A : AbA) (s : Ab) (low high n : Int) (k : Kn) (w : World) (h : AbAt w A s) (hp : placesS s low high n = false) : Calls Try.prog 20 #[.agg #[.slice A.p1 s.regs.length A.c1, .slice A.p2 s.set.length A.c2, .slice A.p3 s.saved.length A.c3], .int .i64 low, .int .i64 high, .int .i64 n, .agg #[.int .i64 k.kind, .int .u64 (U k.num.ul), .int .u64 (U k.num.uh), .int .i64 (S k.num.sl), .int .i64 (S k.num.sh), .int .u64 (U k.num.t.v), .int .u64 (U k.num.t.m), .int .i64 k.reg]] w (PutPost w s s.regs.length s.set.length s.saved.length) := by
  have HCP := Lib.hid (fun (W : World) (hb : Below w.heap.size w W) => rcopy_any A s W (h.below hb))
  have HPL := Lib.hid (fun (W : World) (hb : Below w.heap.size w W) => rplaces_any A s low high n W (h.below hb))
  have HRT := Lib.hid (fun (W : World) => rright_any k W)
  rw [hp] at HPL
  clear h hp
  generalize s.regs.length = N1 at *
  generalize s.set.length = N2 at *
  generalize s.saved.length = N3 at *
  have HN := Lib.hid (Pw.new w A N1 N2 N3 k 25 33 25)
  have f0 := HN.out.f
  go_enter Try.func20, Try.ntmps20
  go_wp2_with (first
    | (go_at_call 9; (with_reducible refine (HRT.out _).mono ?_); rintro e w3 ⟨rfl, hb⟩; have H' := Lib.hid (HM.out.next hb); have HB' := Lib.hid (HB.out.below hb); clear hb f0 f1 HM HB; have HM := H'; have HB := HB'; clear H' HB'; have f0 := HM.out.pw.f; have f1 := HM.out.f)
    | (go_at_call 41; (with_reducible refine (HPL.out _ HM.out.pw.low).mono ?_); rintro e w2 ⟨rfl, hb⟩; have H' := Lib.hid (HM.out.next hb); have HB' := Lib.hid ((HB.out.alloc _).below hb); clear hb f0 f1 HM HB; have HM := H'; have HB := HB'; clear H' HB'; have f0 := HM.out.pw.f; have f1 := HM.out.f)
    | (go_at_call 15; (with_reducible refine (HCP.out _ HN.out.low).mono ?_); rintro e w1 ⟨B, rfl, hb, hab, hup, _⟩; have HM := Lib.hid (Pc.new (B := B) (HN.out.next hb) 25); have HB := Lib.hid hab; have HU := Lib.hid (up3 hup); clear hb hab hup f0; have f0 := HM.out.pw.f; have f1 := HM.out.f))
  exact bodyPost_ret (v := .agg #[.slice B.p1 N1 B.c1, .slice B.p2 N2 B.c2, .slice B.p3 N3 B.c3]) (by simp [results, Try.results20, go_sem, f0]) rfl (HM.out.fin HB.out HU.out (by omega))
set_option maxRecDepth 100000 in
set_option maxHeartbeats 1000000 in
theorem rstore_k (A : AbA) (s : Ab) (low high n : Int) (k : Kn) (w : World) (h : AbAt w A s) (hp : placesS s low high n = true) (hk : right k = false) : Calls Try.prog 20 #[.agg #[.slice A.p1 s.regs.length A.c1, .slice A.p2 s.set.length A.c2, .slice A.p3 s.saved.length A.c3], .int .i64 low, .int .i64 high, .int .i64 n, .agg #[.int .i64 k.kind, .int .u64 (U k.num.ul), .int .u64 (U k.num.uh), .int .i64 (S k.num.sl), .int .i64 (S k.num.sh), .int .u64 (U k.num.t.v), .int .u64 (U k.num.t.m), .int .i64 k.reg]] w (PutPost w s s.regs.length s.set.length s.saved.length) := by
  have HCP := Lib.hid (fun (W : World) (hb : Below w.heap.size w W) => rcopy_any A s W (h.below hb))
  have HPL := Lib.hid (fun (W : World) (hb : Below w.heap.size w W) => rplaces_any A s low high n W (h.below hb))
  have HRT := Lib.hid (fun (W : World) => rright_any k W)
  rw [hp] at HPL
  rw [hk] at HRT
  clear h hp hk
  generalize s.regs.length = N1 at *
  generalize s.set.length = N2 at *
  generalize s.saved.length = N3 at *
  have HN := Lib.hid (Pw.new w A N1 N2 N3 k 25 33 25)
  have f0 := HN.out.f
  go_enter Try.func20, Try.ntmps20
  go_wp2_with (first
    | (go_at_call 9; (with_reducible refine (HRT.out _).mono ?_); rintro e w3 ⟨rfl, hb⟩; have H' := Lib.hid (HM.out.next hb); have HB' := Lib.hid (HB.out.below hb); clear hb f0 f1 HM HB; have HM := H'; have HB := HB'; clear H' HB'; have f0 := HM.out.pw.f; have f1 := HM.out.f)
    | (go_at_call 41; (with_reducible refine (HPL.out _ HM.out.pw.low).mono ?_); rintro e w2 ⟨rfl, hb⟩; have H' := Lib.hid (HM.out.next hb); have HB' := Lib.hid ((HB.out.alloc _).below hb); clear hb f0 f1 HM HB; have HM := H'; have HB := HB'; clear H' HB'; have f0 := HM.out.pw.f; have f1 := HM.out.f)
    | (go_at_call 15; (with_reducible refine (HCP.out _ HN.out.low).mono ?_); rintro e w1 ⟨B, rfl, hb, hab, hup, _⟩; have HM := Lib.hid (Pc.new (B := B) (HN.out.next hb) 25); have HB := Lib.hid hab; have HU := Lib.hid (up3 hup); clear hb hab hup f0; have f0 := HM.out.pw.f; have f1 := HM.out.f))
  exact bodyPost_ret (v := .agg #[.slice B.p1 N1 B.c1, .slice B.p2 N2 B.c2, .slice B.p3 N3 B.c3]) (by simp [results, Try.results20, go_sem, f0]) rfl (HM.out.fin HB.out HU.out (by omega))
end Go.Proofs.Ytdipmlamjjpcoaa
