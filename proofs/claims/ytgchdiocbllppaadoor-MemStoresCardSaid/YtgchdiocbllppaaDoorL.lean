/- What the laws ask at any rate, call by call: closed facts on one small layout. -/
import Derived.Test.YtgchdiocbllppaaDoorK2
namespace Go.Proofs.YtgchdiocbllppaaDoor
open Go.RowKit M

def msH : List Ar := [⟨16, true⟩]
def mH0 : List (List Int) := freshM (zOf 0 msH) 3
def mH1 : List (List Int) := fillM mH0 2 4 (putL 16909060 4)
theorem okH : okL 0 msH = true := by decide +kernel
theorem okH' : okL (-1) [] = false := by decide +kernel
theorem adH : (0 ≤ addrOf 3 4 ∧ addrOf 3 4 < 18446744073709551616) ∧ (0 ≤ addrOf 3 5 ∧ addrOf 3 5 < 18446744073709551616) ∧ (0 ≤ addrOf 3 12 ∧ addrOf 3 12 < 18446744073709551616) ∧ (0 ≤ addrOf 1 0 ∧ addrOf 1 0 < 18446744073709551616) := by decide +kernel
theorem stEH : stE 0 false msH 1 mH0 (addrOf 3 4) 4 = 0 := by decide +kernel
theorem stMH : stM 0 false msH 1 mH0 (addrOf 3 4) 4 16909060 = mH1 := by decide +kernel
theorem lenH0 : mH0.length = 3 := by decide +kernel
theorem lenH1 : mH1.length = 3 := by decide +kernel
theorem ldEH : loadE 0 false msH 1 mH1 (addrOf 3 5) 2 = 0 := by decide +kernel
theorem ldVH : loadV 0 false msH 1 mH1 (addrOf 3 5) 2 = 515 := by decide +kernel
theorem acH1 : accN (findK 0 false msH 1 (addrOf 3 12) 8 false) = 20 := by decide +kernel
theorem acH2 : accN (findK 0 false msH 1 (addrOf 1 0) 1 false) = 20 := by decide +kernel

/-- a memory of three areas and a number -/
def Mem3 (R : List (List Int)) (w : World) (e : Ending) (w' : World) : Prop :=
  ∃ mp mc Q C, e = .returned (.tuple #[.slice mp 3 mc, .int .i64 0]) ∧ Below w.heap.size w w' ∧ MemAt w' mp Q C R
theorem hFresh (p : Option Addr) (w : World) (hm : MapsAt w p 1 msH) : Calls Tryd.prog 9 #[.agg #[.int .i64 0, .bool false, .slice p 1 1]] w (Mem3 mH0 w) :=
  (fresh_ok 0 false p 1 1 msH w hm okH).mono fun _ _ ⟨_, _, _, he, hM, hb⟩ => ⟨_, _, _, _, he, hb, hM⟩
theorem hStore (s : Nat → Addr) (p mp : Option Addr) (mc : Nat) (Q : Nat → Option Addr) (C : Nat → Nat) (w : World) (hs : Sent w s) (hm : MapsAt w p 1 msH) (hM : MemAt w mp Q C mH0) :
    Calls Tryd.prog 31 #[.agg #[.int .i64 0, .bool false, .slice p 1 1], .slice mp 3 mc, .int .u64 (addrOf 3 4), .int .i64 4, .int .u64 16909060] w (Mem3 mH1 w) := by
  have h := store_any s 0 false p 1 1 msH mp mc Q C mH0 (addrOf 3 4) 4 16909060 w hs hm hM adH.1
  rw [stMH, stEH, lenH0] at h
  exact h.mono fun _ _ ⟨mp2, mc2, Q2, C2, he, hb, hM⟩ => ⟨mp2, mc2, Q2, C2, by rw [he, lenH1], hb, hM⟩
theorem hLoad (s : Nat → Addr) (p mp : Option Addr) (mc : Nat) (Q : Nat → Option Addr) (C : Nat → Nat) (w : World) (hs : Sent w s) (hm : MapsAt w p 1 msH) (hM : MemAt w mp Q C mH1) :
    Calls Tryd.prog 26 #[.agg #[.int .i64 0, .bool false, .slice p 1 1], .slice mp 3 mc, .int .u64 (addrOf 3 5), .int .i64 2] w fun e w' =>
      e = .returned (.tuple #[.int .u64 515, .int .i64 0]) ∧ Below w.heap.size w w' := by
  have h := load_any s 0 false p 1 1 msH mp mc Q C mH1 (addrOf 3 5) 2 w hs hm hM adH.2.1
  rw [ldEH, ldVH, lenH1] at h
  exact h
theorem hFresh2 (w : World) : Calls Tryd.prog 9 #[.agg #[.int .i64 (-1), .bool false, .slice none 0 0]] w fun e w' => e = .returned (.tuple #[.slice none 0 0, .int .i64 22]) ∧ Below w.heap.size w w' :=
  fresh_bad (-1) false none 0 0 [] w ⟨rfl, Nat.zero_le _, fun _ hi => absurd hi (Nat.not_lt_zero _)⟩ okH'
theorem hAcc1 (s : Nat → Addr) (p : Option Addr) (w : World) (hs : Sent w s) (hm : MapsAt w p 1 msH) :
    Calls Tryd.prog 15 #[.agg #[.int .i64 0, .bool false, .slice p 1 1], .int .u64 (addrOf 3 12), .int .i64 8, .bool false] w fun e w' => e = .returned (.int .i64 20) ∧ Below w.heap.size w w' := by
  have h := access_any s 0 false p 1 1 msH (addrOf 3 12) 8 false w hs hm adH.2.2.1
  rw [acH1] at h
  exact h
theorem hAcc2 (s : Nat → Addr) (p : Option Addr) (w : World) (hs : Sent w s) (hm : MapsAt w p 1 msH) :
    Calls Tryd.prog 15 #[.agg #[.int .i64 0, .bool false, .slice p 1 1], .int .u64 (addrOf 1 0), .int .i64 1, .bool false] w fun e w' => e = .returned (.int .i64 20) ∧ Below w.heap.size w w' := by
  have h := access_any s 0 false p 1 1 msH (addrOf 1 0) 1 false w hs hm adH.2.2.2
  rw [acH2] at h
  exact h
theorem mapsH (w : World) : MapsAt (w.alloc (.cells #[.int .i64 16, .bool true] 23)) (some ⟨w.heap.size, 0, none⟩) 1 msH :=
  ⟨rfl, by decide, fun i hi => by
    have : i = 0 := by have : i < 1 := hi; omega
    subst this
    exact ⟨_, _, rfl, by simp, cell_new w rfl, cell_new w rfl⟩⟩
end Go.Proofs.YtgchdiocbllppaaDoor
