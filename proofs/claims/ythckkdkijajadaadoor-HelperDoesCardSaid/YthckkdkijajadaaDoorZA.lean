/- Contract of the document's own answer: are two tellings of one call the same? -/
import Derived.Test.YthckkdkijajadaaDoorMQ
namespace Go.Proofs.YthckkdkijajadaaDoor
open Go.RowKit M

set_option maxRecDepth 100000 in
set_option maxHeartbeats 4000000 in
theorem rtold_same (b1 b2 : Nat) (q1 q2 d1 d2 : Option Addr) (c1 c2 e1 e2 f1 f2 : Nat) (n : Int) (T D : List Int) (w : World) (h1 : Box w b1 [.int .i64 n, .slice q1 T.length c1, .slice d1 D.length e1]) (h2 : Box w b2 [.int .i64 n, .slice q2 T.length c2, .slice d2 D.length e2]) (t1 : WordsAt w q1 T) (t2 : WordsAt w q2 T) (r1 : RowAt w d1 D) (r2 : RowAt w d2 D) :
    Calls Tryd.prog 19 #[.slice (some ⟨b1, 0, none⟩) 1 f1, .slice (some ⟨b2, 0, none⟩) 1 f2] w fun e w' => e = .returned (.bool true) ∧ Below w.heap.size w w' := by
  have x0 := h1.cell 0 _ rfl
  have x1 := h1.cell 1 _ rfl
  have x2 := h1.cell 2 _ rfl
  have y0 := h2.cell 0 _ rfl
  have y1 := h2.cell 1 _ rfl
  have y2 := h2.cell 2 _ rfl
  have HB1 := Lib.hid h1
  have HB2 := Lib.hid h2
  have T1 := Lib.hid t1
  have T2 := Lib.hid t2
  have HSM := Lib.hid (fun W (hb : Below w.heap.size w W) => rsame_rows d1 d2 e1 e2 D W (r1.below hb) (r2.below hb))
  have hts := t1.small
  obtain ⟨K, hK⟩ : ∃ K, T.length = K := ⟨_, rfl⟩
  have HK := Lib.hid hK
  rw [hK] at x1 y1 hts HB1 HB2
  generalize D.length = dl at *
  have z0 : (n != n) = false := by simp
  have z1 : ((K : Int) != K) = false := by simp
  clear h1 h2 t1 t2 r1 r2 hK
  go_enter Tryd.func19, Tryd.ntmps19
  go_wp2
  refine wp_loop_rounds 2 ?_
  rw [rounds_succ]
  go_wp2_with fail
  go_quiet (first | (go_at_call 22; exact Calls.quiet_of_same ((HSM.out _ (below_drewN (Below.refl _ _) _)).mono fun _ _ ⟨h1, h2⟩ => ⟨h1, h2.symm⟩)))
  have HBQ : Hid (Below w.heap.size w (w.drewN nq)) := below_drewN (Below.refl _ _) nq
  clear x0 x1 x2 y0 y1 y2
  go_wp2
  go_loopw [6] (fun i wr => ∃ k : Nat, k ≤ K ∧ i = .int .i64 k ∧ Hid (Below w.heap.size w wr)) (fun i _ => K - (intOf i).toNat)
  case atStart => exact ⟨0, Nat.zero_le _, rfl, HBQ.out⟩
  case round =>
    obtain ⟨k, hk, rfl, HB⟩ := hrel
    have x1 := (HB1.out.next HB.out).cell 1 _ rfl
    have y1 := (HB2.out.next HB.out).cell 1 _ rfl
    by_cases hlt : k < K
    · obtain ⟨g1, o1, rfl, _, u1⟩ := (T1.out.below HB.out).cells k (by rw [HK.out]; exact hlt)
      obtain ⟨g2, o2, rfl, _, u2⟩ := (T2.out.below HB.out).cells k (by rw [HK.out]; exact hlt)
      generalize T.getD k 0 = x at u1 u2
      have tx : (x != x) = false := by simp
      go_wp2_with fail
      go_quiet (fail)
      go_wp2
      go_roundw
      case rel => exact ⟨k + 1, by omega, by go_num, below_drewN HB.out _⟩
      case measure => simp [intOf]; omega
    · go_wp2
      rw [rounds_succ]
      go_wp2
      go_ret
      exact ⟨rfl, HB.out⟩
end Go.Proofs.YthckkdkijajadaaDoor
