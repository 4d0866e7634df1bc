/- MemParts: an address is where its region and offset are; no condition. -/
import Derived.Test.YtgchdiocbllppaaDoorL2
namespace Go.Proofs.YtgchdiocbllppaaDoor
open Go.RowKit M

theorem parts_back {r o : Int} (h1 : 0 ≤ r) (h2 : r < 2147483648) (h3 : 0 ≤ o) (h4 : o < 4294967296) : regOf (addrOf r o) = r ∧ offOf (addrOf r o) = o := by
  simp only [regOf, offOf, addrOf, IntKind.wrap_u64]
  omega
theorem addrOf_bd (r o : Int) : 0 ≤ addrOf r o ∧ addrOf r o < 18446744073709551616 := by
  simp only [addrOf, IntKind.wrap_u64]
  omega
set_option maxHeartbeats 400000 in
theorem parts_any (s : Nat → Addr) (r o : Int) (w : World) (hs : Sent w s) :
    Calls Tryd.prog 8 #[.int .i64 r, .int .i64 o] w fun e w' => e = .returned (.bool true) ∧ Below w.heap.size w w' := by
  have HS := Lib.hid hs
  clear hs
  by_cases h1 : r < 0
  · go_enter Tryd.func8, Tryd.ntmps8
    go_wp2_with (go_at_call 12; refine (heads_any s _ HS.out).mono ?_; rintro e w1 ⟨rfl, hb⟩)
    go_ret
    exact ⟨rfl, hb⟩
  · by_cases h2 : 2147483648 ≤ r
    · go_enter Tryd.func8, Tryd.ntmps8
      go_wp2_with (go_at_call 12; refine (heads_any s _ HS.out).mono ?_; rintro e w1 ⟨rfl, hb⟩)
      go_ret
      exact ⟨rfl, hb⟩
    · by_cases h3 : o < 0
      · go_enter Tryd.func8, Tryd.ntmps8
        go_wp2_with (go_at_call 12; refine (heads_any s _ HS.out).mono ?_; rintro e w1 ⟨rfl, hb⟩)
        go_ret
        exact ⟨rfl, hb⟩
      · by_cases h4 : 4294967296 ≤ o
        · go_enter Tryd.func8, Tryd.ntmps8
          go_wp2_with (go_at_call 12; refine (heads_any s _ HS.out).mono ?_; rintro e w1 ⟨rfl, hb⟩)
          go_ret
          exact ⟨rfl, hb⟩
        · obtain ⟨e1, e2⟩ := parts_back (r := r) (o := o) (by omega) (by omega) (by omega) (by omega)
          have ha := addrOf_bd r o
          have HSP := Lib.hid (fun W => split_any (addrOf r o) W ha.1 ha.2)
          rw [e1, e2] at HSP
          have HAD := Lib.hid (address_any r o)
          generalize addrOf r o = A at *
          clear ha e1 e2
          go_enter Tryd.func8, Tryd.ntmps8
          go_wp2_with (first
            | (go_at_call 12; refine (heads_any s _ HS.out).mono ?_; rintro e w1 ⟨rfl, hb⟩)
            | (go_at_call 14; refine (HAD.out _).mono ?_; rintro e w' ⟨rfl, rfl⟩)
            | (go_at_call 21; refine (HSP.out _).mono ?_; rintro e w' ⟨rfl, rfl⟩))
          go_ret
          exact ⟨rfl, hb⟩
end Go.Proofs.YtgchdiocbllppaaDoor
