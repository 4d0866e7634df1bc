/- Dominance: the document's own Order. -/
import Derived.Test.YtgaacdnljkildaaDI
namespace Go.Proofs.Ytgaacdnljkildaa
open Go.RowKit
open Dm

theorem Vs.start (w : World) (q : Option Addr) (qc N : Nat) : Vs w ((w.alloc (.cells (madeCells #[.bool false] N) 4)).alloc (.cells #[.slice q N qc, .slice (some ⟨w.heap.size, 0, none⟩) N N, .slice none 0 0] 48)) (w.heap.size + 1) w.heap.size N q qc (List.replicate N false, []) none 0 := by
  have e : (w.alloc (.cells (madeCells #[.bool false] N) 4)).heap.size = w.heap.size + 1 := by simp
  have hc : ∀ i u, (#[.slice q N qc, .slice (some ⟨w.heap.size, 0, none⟩) N N, .slice none 0 0] : Array Value)[i]? = some u → ((w.alloc (.cells (madeCells #[.bool false] N) 4)).alloc (.cells #[.slice q N qc, .slice (some ⟨w.heap.size, 0, none⟩) N N, .slice none 0 0] 48)).cell? ⟨w.heap.size + 1, i, none⟩ = some u := fun i u hu => by
    have := cell_new (w.alloc (.cells (madeCells #[.bool false] N) 4)) (t := 48) (fr := (0, 0)) hu
    rwa [e] at this
  refine ⟨((Below.refl _ _).alloc (Nat.le_refl _) _).alloc (by simp) _, by omega, by simp, fun j => ?_, ⟨hc 0 _ rfl, hc 1 _ rfl, hc 2 _ rfl⟩, (rb_new w N).next ((Below.refl _ _).alloc (Nat.le_refl _) _), Nat.le_refl _, by omega, World.ownsRow_nil _ _ _ _, by simp, by simp, by simp⟩
  have := World.frozen?_alloc_new (w.alloc (.cells (madeCells #[.bool false] N) 4)) #[.slice q N qc, .slice (some ⟨w.heap.size, 0, none⟩) N N, .slice none 0 0] 48 j
  rwa [e] at this
theorem take_one {l : List Int} {k : Nat} (hk : k < l.length) : l.take (k + 1) = l.take k ++ [l.getD k 0] := by
  rw [List.take_add_one, List.getD_eq_getElem?_getD, List.getElem?_eq_getElem hk]; rfl
theorem rev_at {l : List Nat} {i j : Nat} (h : i + 1 + j = l.length) : (l.map Int.ofNat).getD i 0 = (l.reverse.map Int.ofNat).getD j 0 := by
  rw [List.getD_eq_getElem?_getD, List.getD_eq_getElem?_getD, List.getElem?_map, List.getElem?_map, List.getElem?_reverse (by omega), show l.length - 1 - j = i by omega]
set_option maxRecDepth 100000 in
set_option maxHeartbeats 4000000 in
theorem rorder_any (q : Option Addr) (qc : Nat) (g : List (List Int)) (w : World) (h : GsAt w q g) (hN : g.length ≤ 4096) (hT : tot g ≤ 1048576) : Calls Try.prog 20 #[.slice q g.length qc] w (NumsQ (ordL g) w) := by
  have HV := Lib.hid (rvisit_any w q qc g (w.heap.size + 1) w.heap.size h hN hT (g.length + 1) (List.replicate g.length false, []) 0 _ none 0 (by show unmet (List.replicate g.length false) < _; rw [unmet_rep]; omega) (by show 0 + unmet (List.replicate g.length false) ≤ _; rw [unmet_rep]; omega) (Vs.start w q qc g.length))
  unfold VisQ at HV
  have HL : Hid ((vis g.length (fun i => g.getD i []) (g.length + 1) (List.replicate g.length false, []) 0).2.length ≤ 4096) := Lib.hid (by
    obtain ⟨_, _, a3⟩ := vis_mono g.length (fun i => g.getD i []) (g.length + 1) (List.replicate g.length false, []) 0 (by simp)
    have a3' : _ ≤ 0 + unmet (List.replicate g.length false) := a3
    rw [unmet_rep] at a3'
    omega)
  have hO : ordL g = (vis g.length (fun i => g.getD i []) (g.length + 1) (List.replicate g.length false, []) 0).2.reverse.map Int.ofNat := rfl
  rw [hO]
  clear hO
  generalize vis g.length (fun i => g.getD i []) (g.length + 1) (List.replicate g.length false, []) 0 = t at *
  have HQ : Hid (∀ w1 W p c, Below w.heap.size w w1 → Ri w1 W (t.2.reverse.map Int.ofNat) p c → NumsQ (t.2.reverse.map Int.ofNat) w (.returned (.slice p t.2.length c)) W) := Lib.hid (fun w1 W p c h1 h2 => by
    have := h2.done h1 (by simpa using HL.out)
    rwa [show (t.2.reverse.map Int.ofNat).length = t.2.length by simp] at this)
  have HTK : Hid (∀ k, k < t.2.length → (t.2.reverse.map Int.ofNat).take (k + 1) = (t.2.reverse.map Int.ofNat).take k ++ [(t.2.reverse.map Int.ofNat).getD k 0]) := Lib.hid (fun k hk => take_one (by simpa using hk))
  have HTL : Hid (∀ k, k ≤ t.2.length → ((t.2.reverse.map Int.ofNat).take k).length = k) := Lib.hid (fun k hk => by rw [List.length_take]; simp; omega)
  have HTA : Hid ((t.2.reverse.map Int.ofNat).take t.2.length = t.2.reverse.map Int.ofNat) := Lib.hid (List.take_of_length_le (by simp))
  have HRV : Hid (∀ i j, i + 1 + j = t.2.length → (t.2.map Int.ofNat).getD i 0 = (t.2.reverse.map Int.ofNat).getD j 0) := Lib.hid (fun i j h => rev_at h)
  have HML : Hid ((t.2.map Int.ofNat).length = t.2.length) := Lib.hid (by simp)
  have HOL : Hid ((t.2.reverse.map Int.ofNat).length = t.2.length) := Lib.hid (by simp)
  generalize NumsQ (t.2.reverse.map Int.ofNat) w = Q at *
  generalize t.2.reverse.map Int.ofNat = O at *
  generalize g.length = N at *
  have hmk := fun W => run_make_row' (P := Try.prog) 25 4 (.bool false) 1 Try.underlying25 infoBool rfl .i64 .i64 N (by omega) (by omega) W
  have HN9 := Lib.hid (fun (x : Int) W => nums_new (k := .i64) W 3 [x] #[.int .i64 x] rfl (by simp))
  clear h
  obtain ⟨n, hn⟩ : ∃ n, t.2.length = n := ⟨_, rfl⟩
  have HLN := Lib.hid hn
  rw [hn] at HL HQ HTK HTL HTA HRV HML HOL
  clear hn
  have hL := HL.out
  go_enter Try.func20, Try.ntmps20
  go_wp2_with (go_at_call 30; (with_reducible refine HV.out.mono ?_); rintro e w1 ⟨rfl, p1, c1, hv⟩; have HVS := Lib.hid hv; obtain ⟨d0, d1, d2⟩ := hv.cl; have dl := hv.gwl; rw [HLN.out] at d2; have HNA := Lib.hid (own_nums (l := t.2.map Int.ofNat) (q := p1) (c := c1) (by rw [List.length_map]; exact hv.own) (by rw [HML.out]; omega)); clear hv)
  go_loopw [4, 5] (fun o v wr => ∃ (j : Nat) (x : Int) (p : Option Addr) (c : Nat), j ≤ n ∧ v = .int .i64 x ∧ Hid (x = (n : Int) - 1 - (j : Int)) ∧ o = .slice p j c ∧ Ri w1 wr (O.take j) p c) (fun _ v _ => (intOf v + 1).toNat)
  case atStart => exact ⟨0, _, none, 0, Nat.zero_le _, rfl, Lib.hid (by omega), rfl, by rw [List.take_zero]; exact Ri.nil w1⟩
  case round =>
    clear HV d0 d1 d2 dl
    obtain ⟨j, x, p, c, hj, rfl, HX, rfl, hri⟩ := hrel
    have HR := Lib.hid hri
    obtain ⟨d0, d1, d2⟩ := (HVS.out.next hri.low).cl
    rw [HLN.out] at d2
    have dl := (HVS.out.next hri.low).gwl
    by_cases hjn : j < n
    · obtain ⟨i, rfl, hij⟩ : ∃ i : Nat, x = (i : Int) ∧ i + 1 + j = n := ⟨x.toNat, by have := HX.out; omega, by have := HX.out; omega⟩
      obtain ⟨b5, o5, rfl, hl5, e5⟩ := (HNA.out.below hri.low).cells i (by rw [HML.out]; omega)
      have hi : i < n := by omega
      have HE := Lib.hid (HTK.out j hjn)
      have HJ := Lib.hid (HTL.out j hj)
      rw [HRV.out i j hij] at e5
      have HIJ := Lib.hid hij
      have HRO : Hid (∀ W, Below wr.heap.size wr W → W.ownsRow w1.heap.size 3 1 (.slice p j c) (O.take j).length (intsV (O.take j))) := Lib.hid (fun W hW => by
        have := (HR.out.next hW).own
        rw [show Value.slice p (O.take j).length c = Value.slice p j c by rw [HJ.out]] at this
        exact this)
      clear hri hij HX HTK HTL HTA
      generalize O.getD j 0 = y at *
      go_wp2_with (at_builtin; refine wpList_app_ints rfl (.tmp 24) (.tmp 32) rfl rfl w1.heap.size (some ⟨wr.heap.size, 0, none⟩) [y] (O.take j) (.slice p j c) 1 1 rfl rfl rfl (HRO.out _ ((Below.refl _ _).alloc (Nat.le_refl _) _)) (HN9.out _ _) (by have := HR.out.low.size; simp; omega) (by rw [HJ.out]; simp; omega) ?_; intro v8 w8 ho8 hg8 hb8; obtain ⟨q8, c8, rfl⟩ := own_form ho8; have HP := Lib.hid ((HR.out.next ((Below.refl _ _).alloc (Nat.le_refl _) _)).app HJ.out ho8 rfl hg8); clear ho8 hg8 hb8)
      go_roundw
      case rel => exact ⟨j + 1, _, q8, c8, by omega, rfl, Lib.hid (by have := HIJ.out; omega), by rw [show min j O.length + 1 = j + 1 by rw [HOL.out]; omega], by rw [HE.out]; exact HP.out⟩
      case measure => (simp [intOf]) <;> omega
    · obtain rfl : n = j := by omega
      have hx : x < 0 := by have := HX.out; omega
      have HD := Lib.hid (HQ.out w1 wr p c (HVS.out.low) (by have := HR.out; rwa [HTA.out] at this))
      clear hri
      go_wp2_with fail
      exact HD.out
end Go.Proofs.Ytgaacdnljkildaa
