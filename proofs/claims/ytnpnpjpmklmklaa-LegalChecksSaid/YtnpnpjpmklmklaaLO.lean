/- LegalOps, LegalChecks: their walks. -/
import Derived.Test.YtnpnpjpmklmklaaU2
namespace Go.Proofs.Ytnpnpjpmklmklaa
open Go.RowKit M

set_option maxRecDepth 100000 in
set_option maxHeartbeats 4000000 in
theorem ops_any (op : Int) (w : World) (h0 : -9223372036854775808 ≤ op) (h1 : op ≤ 9223372036854775807) :
    Calls Try.prog 3 #[.int .i64 op] w fun e w' => e = .returned (.bool true) ∧ Below w.heap.size w w' := by
  have HA := Lib.hid (fun W => alu_any op W h0 h1)
  have HB := Lib.hid (fun W => ralu_any op W h0 h1)
  have HC := Lib.hid (fun W => jump_any op W h0 h1)
  have HD := Lib.hid (fun W => rjump_any op W h0 h1)
  have HS := Lib.hid (fun W => size_any op W)
  have HT := Lib.hid (fun W => rsize_any op W)
  unfold AluP at HA HB
  unfold JmpP at HC HD
  generalize (if aluB op = true then op - op % 16 else 0) = a1 at *
  generalize (aluB op && decide (op % 8 = 7)) = a2 at *
  generalize aluB op = a3 at *
  generalize (if jmpB op = true then op - op % 16 else 0) = b1 at *
  generalize (jmpB op && decide (op % 8 = 5)) = b2 at *
  generalize jmpB op = b3 at *
  generalize sizeI op = s at *
  clear h0 h1
  go_enter Try.func3, Try.ntmps3
  go_wp2_with (first
    | (go_at_call 8; refine (HA.out _).mono ?_; rintro e w1 ⟨rfl, rfl⟩)
    | (go_at_call 9; refine (HB.out _).mono ?_; rintro e w1 ⟨rfl, rfl⟩)
    | (go_at_call 10; refine (HC.out _).mono ?_; rintro e w1 ⟨rfl, rfl⟩)
    | (go_at_call 11; refine (HD.out _).mono ?_; rintro e w1 ⟨rfl, rfl⟩)
    | (go_at_call 12; refine (HS.out _).mono ?_; rintro e w1 ⟨rfl, rfl⟩)
    | (go_at_call 13; refine (HT.out _).mono ?_; rintro e w1 ⟨rfl, rfl⟩)
    | (go_at_call 14; refine (heads_any _).mono ?_; rintro e w1 ⟨rfl, hb⟩; have B := Lib.hid hb; clear hb))
  go_ret
  exact ⟨rfl, B.out⟩
set_option maxRecDepth 100000 in
set_option maxHeartbeats 4000000 in
theorem checks_any (q : Option Addr) (qc : Nat) (l : List In) (w : World) (h : InsAt w q l) :
    Calls Try.prog 4 #[.slice q l.length qc] w fun e w' => e = .returned (.bool true) ∧ Below w.heap.size w w' := by
  have HA := Lib.hid (fun W hW => check_any q qc l W hW)
  have HB := Lib.hid (fun W hW => rcheck_any q qc l W hW)
  unfold CheckP at HA HB
  generalize checkS l = cs at *
  obtain ⟨c1, c2⟩ := cs
  have H := Lib.hid h
  generalize l.length = N at *
  clear h
  go_enter Try.func4, Try.ntmps4
  go_wp2_with (first
    | (go_at_call 15; refine (HA.out _ H.out).mono ?_; rintro e w1 ⟨rfl, hb⟩; have B1 := Lib.hid hb; clear hb)
    | (go_at_call 16; refine (HB.out _ (H.out.below B1.out)).mono ?_; rintro e w2 ⟨rfl, hb⟩; have B2 := Lib.hid (below_next B1.out hb); clear hb)
    | (go_at_call 14; refine (heads_any _).mono ?_; rintro e w1 ⟨rfl, hb⟩; have B := Lib.hid (below_next B2.out hb); clear hb))
  go_ret
  exact ⟨rfl, B.out⟩
end Go.Proofs.Ytnpnpjpmklmklaa
