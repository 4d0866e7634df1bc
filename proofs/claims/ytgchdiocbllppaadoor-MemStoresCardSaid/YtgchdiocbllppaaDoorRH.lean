/- Fresh memories, refused or not, in one shape: the program's and the document's. -/
import Derived.Test.YtgchdiocbllppaaDoorRG
import Derived.Test.YtgchdiocbllppaaDoorRF
namespace Go.Proofs.YtgchdiocbllppaaDoor
open Go.RowKit M

/-- a memory is answered, and a number beside it -/
def FPost (K : Nat) (E : Int) (FM : List (List Int)) (w : World) (e : Ending) (w' : World) : Prop :=
  ∃ mp mc Q C, e = .returned (.tuple #[.slice mp K mc, .int .i64 E]) ∧ MemAt w' mp Q C FM ∧ Below w.heap.size w w'
def freshL (c : Int) (ms : List Ar) (len : Nat) : List (List Int) := if okL c ms = true then freshM (zOf c ms) (len + 2) else []
theorem mem_nil (w : World) (mp : Option Addr) (Q : Nat → Option Addr) (C : Nat → Nat) : MemAt w mp Q C [] :=
  ⟨Nat.zero_le _, fun i => by simp, fun i hi => absurd hi (Nat.not_lt_zero _), fun i j hi => absurd hi (Nat.not_lt_zero _), fun i j hi => absurd hi (Nat.not_lt_zero _)⟩
theorem freshL_post {c : Int} {ms : List Ar} {len : Nat} {w : World} {e : Ending} {w' : World} (ho : okL c ms = true) (h : FreshPost c ms (len + 2) w e w') : FPost (freshL c ms len).length (chk (okL c ms)) (freshL c ms len) w e w' := by
  obtain ⟨g, gc, Q, he, hM, hb⟩ := h
  refine ⟨some ⟨g, 0, none⟩, gc, Q, zOf c ms, ?_, ?_, hb⟩
  · rw [he]; unfold freshL; rw [if_pos ho, ho]; simp [freshM, chk]
  · unfold freshL; rw [if_pos ho]; exact hM
theorem freshP (c : Int) (cw : Bool) (q : Option Addr) (len cap : Nat) (ms : List Ar) (w : World) (hm : MapsAt w q len ms) :
    Calls Tryd.prog 9 #[.agg #[.int .i64 c, .bool cw, .slice q len cap]] w (FPost (freshL c ms len).length (chk (okL c ms)) (freshL c ms len) w) := by
  by_cases ho : okL c ms = true
  · exact (fresh_ok c cw q len cap ms w hm ho).mono fun e w' h => freshL_post ho h
  · have ho' : okL c ms = false := by simpa using ho
    refine (fresh_bad c cw q len cap ms w hm ho').mono ?_
    rintro e w' ⟨rfl, hb⟩
    refine ⟨none, 0, fun _ => none, fun _ => 0, ?_, ?_, hb⟩
    · unfold freshL; rw [if_neg ho, ho']; rfl
    · unfold freshL; rw [if_neg ho]; exact mem_nil _ _ _ _
theorem rfreshP (s : Nat → Addr) (c : Int) (cw : Bool) (q : Option Addr) (len cap : Nat) (ms : List Ar) (w : World) (hs : Sent w s) (hm : MapsAt w q len ms) :
    Calls Tryd.prog 16 #[.agg #[.int .i64 c, .bool cw, .slice q len cap]] w (FPost (freshL c ms len).length (chk (okL c ms)) (freshL c ms len) w) := by
  by_cases ho : okL c ms = true
  · exact (rfresh_ok s c cw q len cap ms w hs hm ho).mono fun e w' h => freshL_post ho h
  · have ho' : okL c ms = false := by simpa using ho
    refine (rfresh_bad c cw q len cap ms w hm ho').mono ?_
    rintro e w' ⟨rfl, hb⟩
    refine ⟨none, 0, fun _ => none, fun _ => 0, ?_, ?_, hb⟩
    · unfold freshL; rw [if_neg ho, ho']; rfl
    · unfold freshL; rw [if_neg ho]; exact mem_nil _ _ _ _
end Go.Proofs.YtgchdiocbllppaaDoor
