/- Flow: package flow's own Blocks. -/
import Derived.Test.YtlpijnnlmgoihaaHF
namespace Go.Proofs.Ytlpijnnlmgoihaa
open Go.RowKit M

set_option maxRecDepth 100000 in
set_option maxHeartbeats 1000000 in
theorem sblocks_no (q : Option Addr) (qc : Nat) (l : List In) (w : World) (h : InsAt w q l) (hc : ¬ (checkS l).2 = 0) :
    Calls Try.prog 7 #[.slice q l.length qc] w fun e w' => e = .returned (.tuple #[.slice none 0 0, .int .i64 (checkS l).2]) ∧ Below w.heap.size w w' := by
  have HC := Lib.hid (check_any q qc l w h)
  unfold CheckP at HC
  have hne : ((checkS l).2 != 0) = true := by simpa using hc
  generalize (checkS l).2 = e1 at *
  generalize (checkS l).1 = e0 at *
  generalize l.length = N at *
  clear h
  go_enter Try.func7, Try.ntmps7
  go_wp2_with (go_at_call 18; (with_reducible refine HC.out.mono ?_); rintro e w1 ⟨rfl, hb⟩; have B1 := Lib.hid hb; clear hb)
  go_ret2
  exact ⟨rfl, B1.out⟩
set_option maxRecDepth 100000 in
set_option maxHeartbeats 1000000 in
theorem sblocks_yes (q : Option Addr) (qc : Nat) (l : List In) (w : World) (h : InsAt w q l) (hc : (checkS l).2 = 0) :
    Calls Try.prog 7 #[.slice q l.length qc] w fun e w' => ∃ p c, e = .returned (.tuple #[.slice p (blocksL l).length c, .int .i64 0]) ∧ BksAt w' p (blocksL l) ∧ Below w.heap.size w w' := by
  have HC := Lib.hid (check_any q qc l w h)
  unfold CheckP at HC
  rw [hc] at HC
  have HI := Lib.hid (fun W (hW : Below w.heap.size w W) => h.below hW)
  have HRE := Lib.hid (fun W (hW : Below w.heap.size w W) => reach_any q qc l W (h.below hW) hc)
  have HLE := Lib.hid (fun p pc W (hW : Below w.heap.size w W) hr => leaders_any q qc l p pc W (h.below hW) hc hr)
  have HCU := Lib.hid (fun p pc b nn f W (hW : Below w.heap.size w W) hr hm hp => cut_any q qc l p pc b nn f W (h.below hW) hc hr hm hp)
  have HLI := Lib.hid (fun g2 c b nn f w3 W (hW : Below w.heap.size w w3) hb hm hp hbg => link_any q qc l g2 c b nn f w3 W (h.below hW) hc hb hm hp hbg)
  have hN := (check_ok hc).1
  have hnM : (gOf l).n ≤ 4096 := by
    have h2 : (gOf l).ls.length ≤ (gOf l).reach.length := List.length_filter_le _ _
    have h3 : (gOf l).reach.length ≤ (List.range (gOf l).N).length := List.length_filter_le _ _
    have h4 : (gOf l).N ≤ 4096 := hN
    rw [List.length_range] at h3
    have : (gOf l).ls.length = (gOf l).n := rfl
    omega
  have HDN := Lib.hid (fun w W g P C (hb : Bm w W g (gOf l).n (gOf l) P C ((gOf l).row (gOf l).n 0)) => hb.done hc hnM (fun r => by
    have := Fl.Fg.row_len (G := gOf l) (k := (gOf l).n) (j := 0) (fun k => by
      show ((succL l (((gOf l).la k : Nat) : Int)).map Int.toNat).length ≤ 2
      rw [List.length_map]; exact succL_le l _) (by omega) r
    omega))
  rw [blocks_len hc]
  generalize (checkS l).1 = e0 at *
  generalize hn : (gOf l).n = n at *
  generalize (reachI l).length = M at *
  generalize l.length = N at *
  clear h hc hn
  go_enter Try.func7, Try.ntmps7
  go_wp2_with (first
    | (go_at_call 18; (with_reducible refine HC.out.mono ?_); rintro e w1 ⟨rfl, hb⟩; have B1 := Lib.hid hb; clear hb)
    | (go_at_call 19; (with_reducible refine (HRE.out _ B1.out).mono ?_); rintro e w2 ⟨p2, c2, rfl, hn2, hb2⟩; have B2 := Lib.hid (B1.out.trans (hb2.mono B1.out.size)); have HN2 := Lib.hid hn2; clear hb2 hn2)
    | (go_at_call 20; (with_reducible refine (HLE.out p2 c2 _ B2.out HN2.out).mono ?_); rintro e w3 ⟨b, nn, f, rfl, hp3, hq3⟩; have B3 := Lib.hid (B2.out.trans (hq3.low.mono B2.out.size)); have HN3 := Lib.hid (HN2.out.below hq3.low); have HM3 := Lib.hid hq3.mp; have HP3 := Lib.hid hp3; clear hq3 hp3)
    | (go_at_call 21; (with_reducible refine (HCU.out p2 c2 b nn f _ B3.out HN3.out HM3.out HP3.out).mono ?_); rintro e w4 ⟨g, rfl, hb4⟩; have HM4 := Lib.hid (HM3.out.next hb4.low); have HB4 := Lib.hid hb4; have HGB : Hid (¬ g = b) := Lib.hid (by have := hb4.gb; have := HM3.out.lt; omega); clear hb4)
    | (go_at_call 22; (with_reducible refine (HLI.out g n b nn f w3 _ B3.out HB4.out HM4.out HP3.out HGB.out).mono ?_); rintro e w5 ⟨rfl, P, C, hb5⟩; have HB5 := Lib.hid hb5; clear hb5))
  go_ret2
  exact ⟨some ⟨g, 0, none⟩, n, rfl, HDN.out _ _ _ _ _ HB5.out, B3.out.trans (HB5.out.low.mono B3.out.size)⟩
theorem sblocks_any (q : Option Addr) (qc : Nat) (l : List In) (w : World) (h : InsAt w q l) : Calls Try.prog 7 #[.slice q l.length qc] w fun e w' => ∃ p c, e = .returned (.tuple #[.slice p (blocksL l).length c, .int .i64 (checkS l).2]) ∧ BksAt w' p (blocksL l) ∧ Below w.heap.size w w' := by
  by_cases hc : (checkS l).2 = 0
  · rw [hc]; exact sblocks_yes q qc l w h hc
  · refine (sblocks_no q qc l w h hc).mono ?_
    rintro e w' ⟨rfl, hb⟩
    rw [blocks_no hc]
    exact ⟨none, 0, rfl, ⟨by simp, fun i hi => absurd hi (Nat.not_lt_zero _)⟩, hb⟩
end Go.Proofs.Ytlpijnnlmgoihaa
