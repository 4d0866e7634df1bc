/- MemFresh is proved, and its card: for every layout, region and offset the law answers true, and nothing that was there has changed; the four errors are laid as the program's text lays them. -/
import Derived.Test.YtgchdiocbllppaaDoorCards
import Derived.Test.YtgchdiocbllppaaDoorTie
import Derived.Test.YtgchdiocbllppaaDoorS2
import Derived.Test.YtgchdiocbllppaaDoorO
import Derived.Test.YtgchdiocbllppaaDoorFresh2
namespace Go.Proofs.YtgchdiocbllppaaDoor
open Go.ChangeShapes Go.WideShapes Go.ChangeAt Go.RowKit M

theorem lawFresh_any (s : Nat → Addr) (c : Int) (cw : Bool) (q : Option Addr) (len cap : Nat) (ms : List Ar) (r o : Int) (w : World) (hs : Sent w s) (hm : MapsAt w q len ms) :
    Calls Tryd.prog 3 #[.agg #[.int .i64 c, .bool cw, .slice q len cap], .int .i64 r, .int .i64 o] w fun e w' => e = .returned (.bool true) ∧ Below w.heap.size w w' := by
  cases ho : okL c ms
  · exact lawFresh_bad s c cw q len cap ms r o w hs hm ho
  · cases hr : hasReg len r
    · exact lawFresh_out s c cw q len cap ms r o _ w hs hm ho false (by simp [areaB, hr]) rfl (.inl rfl)
    · have hAB : areaB c ms len r = true := by simp [areaB, ho, hr]
      have hAR : areaR c cw ms len r = areaOf c cw ms r := by simp [areaR, ho, hr]
      by_cases h0 : o < 0
      · exact lawFresh_out s c cw q len cap ms r o _ w hs hm ho true hAB hAR (.inr ⟨rfl, .inl h0⟩)
      · by_cases h1 : (areaOf c cw ms r).size ≤ o
        · exact lawFresh_out s c cw q len cap ms r o _ w hs hm ho true hAB hAR (.inr ⟨rfl, .inr ⟨by omega, h1⟩⟩)
        · exact lawFresh_in s c cw q len cap ms r o _ w hs hm ho hr rfl (by omega) (by omega)
/-- the form's own reach, of one argument -/
theorem weight_le {H : Type} {ts : List TypeId} {ds : List (DataW H)} (h : (DataW.weightsEach Tryd.prog ts ds).all (· ≤ reachBytes) = true) {j : Nat} {t : TypeId} {d : DataW H} (ht : ts[j]? = some t) (hd : ds[j]? = some d) :
    ∀ k ∈ d.weights Tryd.prog t, k ≤ 140737488351232 := fun k hk => by
  have := List.all_eq_true.1 h k (DataW.weights_mem_each ht hd k hk)
  have h2 : k ≤ reachBytes := of_decide_eq_true this
  simpa [reachBytes] using h2

set_option maxRecDepth 100000 in
theorem fresh_contract (H : Type) (enc : TypeId × Value → H) (W : World) (base : Nat) (args : Array Value) (ds gs : List (DataW H)) (before : List MemPlace)
    (hval : ∀ (j : Nat) t v, Tryd.f3.params[j]? = some t → args[j]? = some v → Value.okWide Tryd.prog W .any base t v)
    (hW : DataW.Whole enc Tryd.prog Tryd.f3.params.toList Rows.memFreshSpec.vars false W args.toList ds gs before) (hL : laidMetH Tryd.prog Rows.memFreshRow.laid W)
    (hsz : (DataW.weightsEach Tryd.prog (Tryd.f3.params.toList ++ (OpenSpec.ofChange Rows.memFreshSpec).bare.plain.varTypes Tryd.prog) (ds ++ gs)).all (· ≤ reachBytes) = true) :
    Calls Tryd.prog 3 args W fun e W' => ∃ v, e = .returned v ∧ Rows.memFreshSpec.post enc Tryd.prog Tryd.f3 false true false false W args v W' := by
  have hW' := hW
  obtain ⟨s, hs⟩ := sent_of_laid (W := W) (by rw [show Rows.memFreshRow.laid = laid4 from rfl] at hL; exact hL)
  obtain ⟨p, q, hA0, hV, rfl, hfz, hnd⟩ := hW
  have hA : DataW.TrodAll enc Tryd.prog W 0 (fun _ => true) true Tryd.f3.params.toList args.toList ds p := hA0
  rw [Tryd.params3] at hA hval hsz
  obtain ⟨v0, v1, v2, d0, d1, d2, p0, p1, p2, rfl, rfl, rfl, h0, h1, h2⟩ := trodAll_three hA
  obtain ⟨r, rfl, rfl, rfl, _⟩ := open_int Tryd.underlying3 (hval 1 3 v1 rfl rfl) h1
  obtain ⟨o, rfl, rfl, rfl, _⟩ := open_int Tryd.underlying3 (hval 2 3 v2 rfl rfl) h2
  obtain ⟨rfl, rfl⟩ := trodVars_none hV
  obtain ⟨c, cw, q, len, cap, ms, rfl, hm⟩ := open_layout (hval 0 26 v0 rfl rfl) h0 (weight_le hsz (j := 0) rfl rfl)
  refine (lawFresh_any s c cw q len cap ms r o W hs hm).mono fun e W' ⟨he, hb⟩ => ⟨_, he, ?_⟩
  exact law_post hW' rfl (by kernel_rfl) (read_of (by kernel_rfl)) (by kernel_rfl) hb

theorem fresh_reads (os : Os) {H : Type} (enc : TypeId × Value → H) : ∃ places, DataW.whole enc Tryd.prog ((World.doorLaid Tryd.prog 85 os).forCall (fun _ _ => 0) ⟨#[], #[.agg #[.int .i64 0, .bool false, .slice none 0 0], .int .i64 0, .int .i64 0], []⟩).memory Tryd.f3.params.toList Rows.memFreshSpec.vars false #[Value.agg #[.int .i64 0, .bool false, .slice none 0 0], Value.int .i64 0, Value.int .i64 0].toList 8 = some ([.agg [.agg [.lit (.int .i64 0), .lit (.bool false)], .nil], .lit (.int .i64 0), .lit (.int .i64 0)], [], places) :=
  ⟨[], by kernel_rfl⟩
set_option maxRecDepth 100000 in
theorem fresh_lifted (os : Os) (started : os.Started) (H : Type) (enc : TypeId × Value → H) (F : Stop.Interp) :
    ReturnsInHanded {} Tryd.checked os 3 .any ((OpenSpec.ofChange Rows.memFreshSpec).preRow enc Tryd.prog Tryd.f3 Rows.memFreshRow.domain false Rows.memFreshRow.laid) (((OpenSpec.ofChange Rows.memFreshSpec).at F).post enc Tryd.prog Tryd.f3 false true false false) := by
  obtain ⟨places, hx⟩ := fresh_reads os enc
  refine returnsInHanded_of_row (C := Tryd.checked) (s := OpenSpec.ofChange Rows.memFreshSpec) own started (by kernel_rfl) Tryd.func3
    ⟨World.doorLaid Tryd.prog 85 os, fun _ _ => 0, ⟨#[], #[.agg #[.int .i64 0, .bool false, .slice none 0 0], .int .i64 0, .int .i64 0], []⟩, rfl, World.shaped_of_RefB (by kernel_rfl) (by kernel_rfl), rfl, (Input.okWide_of_okWideB (by kernel_rfl)).2,
      OpenSpec.preRow_of_cond 8 hx (by kernel_rfl) (fun k hk => by cases hk) (by kernel_rfl) (door_met os _), by simp only [Assume.holds]; exact ⟨by simp, by simp, fun _ => Modest.zero, by simp, by simp⟩⟩ ?_
  intro W base args ds gs before hval hW _ _ hsz hL _ _
  exact fresh_contract H enc W base args ds gs before hval hW hL hsz
theorem fresh_said : Rows.MemFreshSaid :=
  OpenClaim.holds_of_cond 3 Tryd.f3 rfl rfl rfl rfl rfl rfl rfl ⟨rfl, rfl, rfl, rfl, rfl⟩ rfl rfl rfl rfl rfl (by kernel_rfl) Tryd.func3 (by kernel_rfl)
    (of_decide_eq_true (by kernel_rfl)) (by unfold Func.isWrapper; first | (rw [if_pos (by decide +kernel)]; kernel_rfl) | (rw [if_neg (by decide +kernel)]; exact ⟨rfl, rfl⟩))
    (fun os started H enc _ F => by rw [OpenClaim.pre_eq_preRow]; exact fresh_lifted os started H enc F)
theorem fresh_plain (f : FuncId) (fn : Func) (hf : Tryd.pinned.checked.prog.funcNamed "clevis/clevislaw02.MemFresh" = some f) (hfn : Tryd.pinned.checked.prog.funcs[f]? = some fn) :
    true = Tryd.pinned.checked.prog.looks [] ∧ ∀ (j : Nat) t, fn.params[j]? = some t → Tryd.pinned.checked.prog.wantsStandIn t = false := by
  obtain rfl : f = 3 := Option.some.inj ((show Tryd.prog.funcNamed "clevis/clevislaw02.MemFresh" = some 3 by kernel_rfl).symm.trans hf) |>.symm
  obtain rfl : fn = Tryd.f3 := (Option.some.inj (Tryd.func3.symm.trans hfn)).symm
  refine ⟨by kernel_rfl, fun j t ht => ?_⟩
  rw [Tryd.params3] at ht
  have hm : t ∈ [26, 3, 3] := by simpa using Array.mem_of_getElem? ht
  have hall : ([26, 3, 3].all fun u => !Tryd.prog.wantsStandIn u) = true := by kernel_rfl
  exact (show Tryd.prog.wantsStandIn t = false by simpa using List.all_eq_true.1 hall t hm)
theorem fresh_card : Rows.MemFreshCardSaid :=
  Claim7.holds_tied_plain_at .later [] _ _ _ _ fresh_said (fun _ h => by cases h) (by kernel_rfl) (fun _ h => by cases h) memFresh_row_tie rfl ⟨rfl, rfl⟩ (by kernel_rfl) rfl fresh_plain (by kernel_rfl)
#print axioms fresh_card
end Go.Proofs.YtgchdiocbllppaaDoor
