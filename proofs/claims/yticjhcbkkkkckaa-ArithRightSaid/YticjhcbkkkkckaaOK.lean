/- Package arith: what each operation reckons, told by its number. -/
import Derived.Test.YticjhcbkkkkckaaGA
import Derived.Test.YticjhcbkkkkckaaGB
namespace Go.Proofs.Yticjhcbkkkkckaa
open Go.RowKit

/-- what the program reckons, not yet tidy: of 64 bits, of the lowest 32 -/
def reckB (op : Int) (a b : Bd) (g : Bool) : Bd :=
  if op = 96 then (if b.ul = b.uh then shlB a (cntB b g) else bany)
  else if op = 112 then (if b.ul = b.uh then shrB a (cntB b g) else uptoU a.uh)
  else if op = 192 then (if b.ul = b.uh then (if g = true then sarB a (cntB b g) else if 2147483647 < a.uh.toNat then bany else shrB a (cntB b g)) else bany)
  else wideB op a b
theorem reck_0 (a b : Bd) (g : Bool) (w : World) : Calls Try.prog 30 #[.agg #[.int .u64 (U a.ul), .int .u64 (U a.uh), .int .i64 (S a.sl), .int .i64 (S a.sh), .int .u64 (U a.t.v), .int .u64 (U a.t.m), .int .u64 (U b.ul), .int .u64 (U b.uh), .int .i64 (S b.sl), .int .i64 (S b.sh), .int .u64 (U b.t.v), .int .u64 (U b.t.m), .bool g]] w fun e w' => e = .returned (.agg #[.int .u64 (U (reckB 0 a b g).ul), .int .u64 (U (reckB 0 a b g).uh), .int .i64 (S (reckB 0 a b g).sl), .int .i64 (S (reckB 0 a b g).sh), .int .u64 (U (reckB 0 a b g).t.v), .int .u64 (U (reckB 0 a b g).t.m)]) ∧ Below w.heap.size w w' := by
  rw [show reckB 0 a b g = addB a b by unfold reckB wideB; simp only [Int.reduceEq, if_true, if_false]]
  exact aadd_any a b g w
theorem reck_16 (a b : Bd) (g : Bool) (w : World) : Calls Try.prog 31 #[.agg #[.int .u64 (U a.ul), .int .u64 (U a.uh), .int .i64 (S a.sl), .int .i64 (S a.sh), .int .u64 (U a.t.v), .int .u64 (U a.t.m), .int .u64 (U b.ul), .int .u64 (U b.uh), .int .i64 (S b.sl), .int .i64 (S b.sh), .int .u64 (U b.t.v), .int .u64 (U b.t.m), .bool g]] w fun e w' => e = .returned (.agg #[.int .u64 (U (reckB 16 a b g).ul), .int .u64 (U (reckB 16 a b g).uh), .int .i64 (S (reckB 16 a b g).sl), .int .i64 (S (reckB 16 a b g).sh), .int .u64 (U (reckB 16 a b g).t.v), .int .u64 (U (reckB 16 a b g).t.m)]) ∧ Below w.heap.size w w' := by
  rw [show reckB 16 a b g = subB a b by unfold reckB wideB; simp only [Int.reduceEq, if_true, if_false]]
  exact asub_any a b g w
theorem reck_32 (a b : Bd) (g : Bool) (w : World) : Calls Try.prog 32 #[.agg #[.int .u64 (U a.ul), .int .u64 (U a.uh), .int .i64 (S a.sl), .int .i64 (S a.sh), .int .u64 (U a.t.v), .int .u64 (U a.t.m), .int .u64 (U b.ul), .int .u64 (U b.uh), .int .i64 (S b.sl), .int .i64 (S b.sh), .int .u64 (U b.t.v), .int .u64 (U b.t.m), .bool g]] w fun e w' => e = .returned (.agg #[.int .u64 (U (reckB 32 a b g).ul), .int .u64 (U (reckB 32 a b g).uh), .int .i64 (S (reckB 32 a b g).sl), .int .i64 (S (reckB 32 a b g).sh), .int .u64 (U (reckB 32 a b g).t.v), .int .u64 (U (reckB 32 a b g).t.m)]) ∧ Below w.heap.size w w' := by
  rw [show reckB 32 a b g = mulB a b by unfold reckB wideB; simp only [Int.reduceEq, if_true, if_false]]
  exact amul_any a b g w
theorem reck_48 (a b : Bd) (g : Bool) (w : World) : Calls Try.prog 33 #[.agg #[.int .u64 (U a.ul), .int .u64 (U a.uh), .int .i64 (S a.sl), .int .i64 (S a.sh), .int .u64 (U a.t.v), .int .u64 (U a.t.m), .int .u64 (U b.ul), .int .u64 (U b.uh), .int .i64 (S b.sl), .int .i64 (S b.sh), .int .u64 (U b.t.v), .int .u64 (U b.t.m), .bool g]] w fun e w' => e = .returned (.agg #[.int .u64 (U (reckB 48 a b g).ul), .int .u64 (U (reckB 48 a b g).uh), .int .i64 (S (reckB 48 a b g).sl), .int .i64 (S (reckB 48 a b g).sh), .int .u64 (U (reckB 48 a b g).t.v), .int .u64 (U (reckB 48 a b g).t.m)]) ∧ Below w.heap.size w w' := by
  rw [show reckB 48 a b g = divB a b by unfold reckB wideB; simp only [Int.reduceEq, if_true, if_false]]
  exact adiv_any a b g w
theorem reck_64 (a b : Bd) (g : Bool) (w : World) : Calls Try.prog 36 #[.agg #[.int .u64 (U a.ul), .int .u64 (U a.uh), .int .i64 (S a.sl), .int .i64 (S a.sh), .int .u64 (U a.t.v), .int .u64 (U a.t.m), .int .u64 (U b.ul), .int .u64 (U b.uh), .int .i64 (S b.sl), .int .i64 (S b.sh), .int .u64 (U b.t.v), .int .u64 (U b.t.m), .bool g]] w fun e w' => e = .returned (.agg #[.int .u64 (U (reckB 64 a b g).ul), .int .u64 (U (reckB 64 a b g).uh), .int .i64 (S (reckB 64 a b g).sl), .int .i64 (S (reckB 64 a b g).sh), .int .u64 (U (reckB 64 a b g).t.v), .int .u64 (U (reckB 64 a b g).t.m)]) ∧ Below w.heap.size w w' := by
  rw [show reckB 64 a b g = orB a b by unfold reckB wideB; simp only [Int.reduceEq, if_true, if_false]]
  exact aor_any a b g w
theorem reck_80 (a b : Bd) (g : Bool) (w : World) : Calls Try.prog 35 #[.agg #[.int .u64 (U a.ul), .int .u64 (U a.uh), .int .i64 (S a.sl), .int .i64 (S a.sh), .int .u64 (U a.t.v), .int .u64 (U a.t.m), .int .u64 (U b.ul), .int .u64 (U b.uh), .int .i64 (S b.sl), .int .i64 (S b.sh), .int .u64 (U b.t.v), .int .u64 (U b.t.m), .bool g]] w fun e w' => e = .returned (.agg #[.int .u64 (U (reckB 80 a b g).ul), .int .u64 (U (reckB 80 a b g).uh), .int .i64 (S (reckB 80 a b g).sl), .int .i64 (S (reckB 80 a b g).sh), .int .u64 (U (reckB 80 a b g).t.v), .int .u64 (U (reckB 80 a b g).t.m)]) ∧ Below w.heap.size w w' := by
  rw [show reckB 80 a b g = andB a b by unfold reckB wideB; simp only [Int.reduceEq, if_true, if_false]]
  exact aand_any a b g w
theorem reck_96 (a b : Bd) (g : Bool) (w : World) : Calls Try.prog 38 #[.agg #[.int .u64 (U a.ul), .int .u64 (U a.uh), .int .i64 (S a.sl), .int .i64 (S a.sh), .int .u64 (U a.t.v), .int .u64 (U a.t.m), .int .u64 (U b.ul), .int .u64 (U b.uh), .int .i64 (S b.sl), .int .i64 (S b.sh), .int .u64 (U b.t.v), .int .u64 (U b.t.m), .bool g]] w fun e w' => e = .returned (.agg #[.int .u64 (U (reckB 96 a b g).ul), .int .u64 (U (reckB 96 a b g).uh), .int .i64 (S (reckB 96 a b g).sl), .int .i64 (S (reckB 96 a b g).sh), .int .u64 (U (reckB 96 a b g).t.v), .int .u64 (U (reckB 96 a b g).t.m)]) ∧ Below w.heap.size w w' := by
  by_cases h : b.ul = b.uh
  · rw [show reckB 96 a b g = shlB a (cntB b g) by unfold reckB; simp only [if_true]; rw [if_pos h]]; exact alsh_1 a b h g w
  · rw [show reckB 96 a b g = bany by unfold reckB; simp only [if_true]; rw [if_neg h]]; exact alsh_0 a b h g w
theorem reck_112 (a b : Bd) (g : Bool) (w : World) : Calls Try.prog 39 #[.agg #[.int .u64 (U a.ul), .int .u64 (U a.uh), .int .i64 (S a.sl), .int .i64 (S a.sh), .int .u64 (U a.t.v), .int .u64 (U a.t.m), .int .u64 (U b.ul), .int .u64 (U b.uh), .int .i64 (S b.sl), .int .i64 (S b.sh), .int .u64 (U b.t.v), .int .u64 (U b.t.m), .bool g]] w fun e w' => e = .returned (.agg #[.int .u64 (U (reckB 112 a b g).ul), .int .u64 (U (reckB 112 a b g).uh), .int .i64 (S (reckB 112 a b g).sl), .int .i64 (S (reckB 112 a b g).sh), .int .u64 (U (reckB 112 a b g).t.v), .int .u64 (U (reckB 112 a b g).t.m)]) ∧ Below w.heap.size w w' := by
  by_cases h : b.ul = b.uh
  · rw [show reckB 112 a b g = shrB a (cntB b g) by unfold reckB; simp only [Int.reduceEq, if_true, if_false]; rw [if_pos h]]; exact arsh_1 a b h g w
  · rw [show reckB 112 a b g = uptoU a.uh by unfold reckB; simp only [Int.reduceEq, if_true, if_false]; rw [if_neg h]]; exact arsh_0 a b h g w
theorem reck_128 (a b : Bd) (g : Bool) (w : World) : Calls Try.prog 41 #[.agg #[.int .u64 (U a.ul), .int .u64 (U a.uh), .int .i64 (S a.sl), .int .i64 (S a.sh), .int .u64 (U a.t.v), .int .u64 (U a.t.m), .int .u64 (U b.ul), .int .u64 (U b.uh), .int .i64 (S b.sl), .int .i64 (S b.sh), .int .u64 (U b.t.v), .int .u64 (U b.t.m), .bool g]] w fun e w' => e = .returned (.agg #[.int .u64 (U (reckB 128 a b g).ul), .int .u64 (U (reckB 128 a b g).uh), .int .i64 (S (reckB 128 a b g).sl), .int .i64 (S (reckB 128 a b g).sh), .int .u64 (U (reckB 128 a b g).t.v), .int .u64 (U (reckB 128 a b g).t.m)]) ∧ Below w.heap.size w w' := by
  rw [show reckB 128 a b g = subB (bconst 0#64) a by unfold reckB wideB; simp only [Int.reduceEq, if_true, if_false]]
  exact aneg_any a b g w
theorem reck_144 (a b : Bd) (g : Bool) (w : World) : Calls Try.prog 34 #[.agg #[.int .u64 (U a.ul), .int .u64 (U a.uh), .int .i64 (S a.sl), .int .i64 (S a.sh), .int .u64 (U a.t.v), .int .u64 (U a.t.m), .int .u64 (U b.ul), .int .u64 (U b.uh), .int .i64 (S b.sl), .int .i64 (S b.sh), .int .u64 (U b.t.v), .int .u64 (U b.t.m), .bool g]] w fun e w' => e = .returned (.agg #[.int .u64 (U (reckB 144 a b g).ul), .int .u64 (U (reckB 144 a b g).uh), .int .i64 (S (reckB 144 a b g).sl), .int .i64 (S (reckB 144 a b g).sh), .int .u64 (U (reckB 144 a b g).t.v), .int .u64 (U (reckB 144 a b g).t.m)]) ∧ Below w.heap.size w w' := by
  rw [show reckB 144 a b g = modB a b by unfold reckB wideB; simp only [Int.reduceEq, if_true, if_false]]
  exact amod_any a b g w
theorem reck_160 (a b : Bd) (g : Bool) (w : World) : Calls Try.prog 37 #[.agg #[.int .u64 (U a.ul), .int .u64 (U a.uh), .int .i64 (S a.sl), .int .i64 (S a.sh), .int .u64 (U a.t.v), .int .u64 (U a.t.m), .int .u64 (U b.ul), .int .u64 (U b.uh), .int .i64 (S b.sl), .int .i64 (S b.sh), .int .u64 (U b.t.v), .int .u64 (U b.t.m), .bool g]] w fun e w' => e = .returned (.agg #[.int .u64 (U (reckB 160 a b g).ul), .int .u64 (U (reckB 160 a b g).uh), .int .i64 (S (reckB 160 a b g).sl), .int .i64 (S (reckB 160 a b g).sh), .int .u64 (U (reckB 160 a b g).t.v), .int .u64 (U (reckB 160 a b g).t.m)]) ∧ Below w.heap.size w w' := by
  rw [show reckB 160 a b g = xorB a b by unfold reckB wideB; simp only [Int.reduceEq, if_true, if_false]]
  exact axor_any a b g w
theorem reck_176 (a b : Bd) (g : Bool) (w : World) : Calls Try.prog 42 #[.agg #[.int .u64 (U a.ul), .int .u64 (U a.uh), .int .i64 (S a.sl), .int .i64 (S a.sh), .int .u64 (U a.t.v), .int .u64 (U a.t.m), .int .u64 (U b.ul), .int .u64 (U b.uh), .int .i64 (S b.sl), .int .i64 (S b.sh), .int .u64 (U b.t.v), .int .u64 (U b.t.m), .bool g]] w fun e w' => e = .returned (.agg #[.int .u64 (U (reckB 176 a b g).ul), .int .u64 (U (reckB 176 a b g).uh), .int .i64 (S (reckB 176 a b g).sl), .int .i64 (S (reckB 176 a b g).sh), .int .u64 (U (reckB 176 a b g).t.v), .int .u64 (U (reckB 176 a b g).t.m)]) ∧ Below w.heap.size w w' := by
  rw [show reckB 176 a b g = b by unfold reckB wideB; simp only [Int.reduceEq, if_true, if_false]]
  exact amov_any a b g w
theorem reck_192 (a b : Bd) (g : Bool) (w : World) : Calls Try.prog 40 #[.agg #[.int .u64 (U a.ul), .int .u64 (U a.uh), .int .i64 (S a.sl), .int .i64 (S a.sh), .int .u64 (U a.t.v), .int .u64 (U a.t.m), .int .u64 (U b.ul), .int .u64 (U b.uh), .int .i64 (S b.sl), .int .i64 (S b.sh), .int .u64 (U b.t.v), .int .u64 (U b.t.m), .bool g]] w fun e w' => e = .returned (.agg #[.int .u64 (U (reckB 192 a b g).ul), .int .u64 (U (reckB 192 a b g).uh), .int .i64 (S (reckB 192 a b g).sl), .int .i64 (S (reckB 192 a b g).sh), .int .u64 (U (reckB 192 a b g).t.v), .int .u64 (U (reckB 192 a b g).t.m)]) ∧ Below w.heap.size w w' := by
  have e : reckB 192 a b g = if b.ul = b.uh then (if g = true then sarB a (cntB b g) else if 2147483647 < a.uh.toNat then bany else shrB a (cntB b g)) else bany := by unfold reckB; simp only [Int.reduceEq, if_true, if_false]
  rw [e]
  by_cases h : b.ul = b.uh
  · rw [if_pos h]
    cases g with
    | true => rw [if_pos rfl]; exact asar_t a b h w
    | false =>
      rw [if_neg (by simp)]
      by_cases h2 : 2147483647 < a.uh.toNat
      · rw [if_pos h2]; exact asar_f a b h h2 w
      · rw [if_neg h2]; exact asar_r a b h h2 w
  · rw [if_neg h]; exact asar_0 a b h g w
end Go.Proofs.Yticjhcbkkkkckaa
