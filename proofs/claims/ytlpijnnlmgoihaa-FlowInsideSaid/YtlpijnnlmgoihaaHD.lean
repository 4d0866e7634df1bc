/- Flow: package flow's own leaders: a map, at each block's first instruction its place. -/
import Derived.Test.YtlpijnnlmgoihaaHC
namespace Go.Proofs.Ytlpijnnlmgoihaa
open Go.RowKit M

namespace Fl
variable {G : Fg}
theorem Fg.lead_jump (hG : G.Ok) {j : Nat} : G.lead j = true ↔ j = 0 ∨ ∃ i ∈ G.reach, G.ju i = true ∧ j ∈ G.su i := by
  rw [Fg.lead_iff]
  constructor
  · rintro (h | ⟨i, hi, hs, h⟩)
    · exact .inl h
    · refine .inr ⟨i, hi, ?_, hs⟩
      rcases h with h | h
      · exact h
      · cases hj : G.ju i with
        | true => rfl
        | false =>
          obtain ⟨k1, k2⟩ := ((Fg.mem_reach hG).1 hi).ok hG
          rcases hG.one i k1 k2 hj with e | e
          · rw [e] at hs; cases hs
          · rw [e] at hs; exact absurd (List.mem_singleton.1 hs) h
  · rintro (h | ⟨i, hi, h, hs⟩)
    · exact .inl h
    · exact .inr ⟨i, hi, hs, .inl h⟩
end Fl
open Fl (Fg)
/-- what stands in the map when k of those that one may come to are done, and m of the next one's ways -/
def Lm (G : Fg) (k m : Nat) (f : Int → Option Int) : Prop :=
  ∀ x : Int, (f x).isSome = true ↔ x = 0 ∨ (∃ i ∈ G.reach.take k, G.ju i = true ∧ ∃ s ∈ G.su i, x = ((s : Nat) : Int)) ∨ ∃ s ∈ (G.su (G.reach.getD k 0)).take m, x = ((s : Nat) : Int)
theorem mput_some {f : Int → Option Int} {k y x : Int} : (mput f k y x).isSome = true ↔ x = k ∨ (f x).isSome = true := by
  unfold mput
  by_cases e : x = k
  · rw [if_pos e]; exact ⟨fun _ => .inl e, fun _ => rfl⟩
  · rw [if_neg e]; exact ⟨.inr, fun h => h.resolve_left e⟩
theorem Lm.start (G : Fg) : Lm G 0 0 (mput (fun _ => none) 0 0) := by
  intro x
  rw [mput_some]
  simp
theorem Lm.step {G : Fg} {k m : Nat} {f : Int → Option Int} (h : Lm G k m f) (hm : m < (G.su (G.reach.getD k 0)).length) : Lm G k (m + 1) (mput f (((G.su (G.reach.getD k 0)).getD m 0 : Nat) : Int) 0) := by
  intro x
  rw [mput_some, h x, take_next hm]
  generalize G.reach.getD k 0 = i at *
  constructor
  · rintro (h | h | h | ⟨s, hs, e⟩)
    · exact .inr (.inr ⟨_, List.mem_append_right _ (List.mem_singleton.2 rfl), h⟩)
    · exact .inl h
    · exact .inr (.inl h)
    · exact .inr (.inr ⟨s, List.mem_append_left _ hs, e⟩)
  · rintro (h | h | ⟨s, hs, e⟩)
    · exact .inr (.inl h)
    · exact .inr (.inr (.inl h))
    · rcases List.mem_append.1 hs with c | c
      · exact .inr (.inr (.inr ⟨s, c, e⟩))
      · rw [List.mem_singleton.1 c] at e; exact .inl e
theorem Lm.next {G : Fg} {k : Nat} {f : Int → Option Int} (h : Lm G k (G.su (G.reach.getD k 0)).length f) (hk : k < G.reach.length) (hj : G.ju (G.reach.getD k 0) = true) : Lm G (k + 1) 0 f := by
  intro x
  rw [h x, take_next hk, List.take_length]
  generalize G.reach.getD k 0 = i at *
  constructor
  · rintro (h | ⟨a, h1, h2⟩ | ⟨s, hs, e⟩)
    · exact .inl h
    · exact .inr (.inl ⟨a, List.mem_append_left _ h1, h2⟩)
    · exact .inr (.inl ⟨i, List.mem_append_right _ (List.mem_singleton.2 rfl), hj, s, hs, e⟩)
  · rintro (h | ⟨a, h1, h2, s, hs, e⟩ | ⟨s, hs, _⟩)
    · exact .inl h
    · rcases List.mem_append.1 h1 with c | c
      · exact .inr (.inl ⟨a, c, h2, s, hs, e⟩)
      · rw [List.mem_singleton.1 c] at hs; exact .inr (.inr ⟨s, hs, e⟩)
    · simp at hs
theorem Lm.skip {G : Fg} {k : Nat} {f : Int → Option Int} (h : Lm G k 0 f) (hk : k < G.reach.length) (hj : G.ju (G.reach.getD k 0) = false) : Lm G (k + 1) 0 f := by
  intro x
  rw [h x, take_next hk]
  generalize G.reach.getD k 0 = i at *
  constructor
  · rintro (h | ⟨a, h1, h2⟩ | ⟨s, hs, _⟩)
    · exact .inl h
    · exact .inr (.inl ⟨a, List.mem_append_left _ h1, h2⟩)
    · simp at hs
  · rintro (h | ⟨a, h1, h2, h3⟩ | ⟨s, hs, _⟩)
    · exact .inl h
    · rcases List.mem_append.1 h1 with c | c
      · exact .inr (.inl ⟨a, c, h2, h3⟩)
      · rw [List.mem_singleton.1 c, hj] at h2; cases h2
    · simp at hs
theorem Lm.done {G : Fg} (hG : G.Ok) {f : Int → Option Int} (h : Lm G G.reach.length 0 f) (x : Int) : x ∈ G.ls.map Int.ofNat ↔ (f x).isSome = true := by
  rw [h x, List.mem_map, List.take_length]
  constructor
  · rintro ⟨a, ha, rfl⟩
    rcases (Fg.lead_jump hG).1 ((Fg.mem_ls hG).1 ha).2 with e | ⟨i, hi, hj, hs⟩
    · exact .inl (by rw [e]; rfl)
    · exact .inr (.inl ⟨i, hi, hj, a, hs, rfl⟩)
  · rintro (rfl | ⟨i, hi, hj, s, hs, rfl⟩ | ⟨s, hs, _⟩)
    · exact ⟨0, (Fg.mem_ls hG).2 ⟨.zero, Fg.lead0⟩, rfl⟩
    · exact ⟨s, (Fg.mem_ls hG).2 ⟨.step ((Fg.mem_reach hG).1 hi) hs, (Fg.lead_jump hG).2 (.inr ⟨i, hi, hj, hs⟩)⟩, rfl⟩
    · simp at hs
/-- what stands in the map when the first t blocks have their places -/
structure Lp (G : Fg) (t : Nat) (f : Int → Option Int) : Prop where
  key : ∀ x : Int, x ∈ G.ls.map Int.ofNat ↔ (f x).isSome = true
  at_ : ∀ a, a < t → f (G.fr a : Int) = some (a : Int)
theorem Lp.step {G : Fg} {t : Nat} {f : Int → Option Int} (h : Lp G t f) (ht : t < G.n) : Lp G (t + 1) (mput f (G.fr t : Int) (t : Int)) := by
  refine ⟨fun x => ?_, fun a ha => ?_⟩
  · rw [mput_some, ← h.key x]
    constructor
    · exact .inr
    · rintro (rfl | h)
      · exact List.mem_map.2 ⟨G.fr t, Fl.getD_mem ht, rfl⟩
      · exact h
  · unfold mput
    by_cases e : a = t
    · subst e; rw [if_pos rfl]
    · rw [if_neg (fun c => e (Fg.fr_inj G (by omega) ht (by omega)))]
      exact h.at_ a (by omega)
/-- a leader's place -/
theorem Lp.lead {G : Fg} (hG : G.Ok) {f : Int → Option Int} (h : Lp G G.n f) {s : Nat} (hs : G.R s) (hl : G.lead s = true) : f (s : Int) = some (G.fd s : Int) := by
  obtain ⟨h1, h2, _⟩ := Fg.fd_lead hG hs hl
  have := h.at_ _ h1
  rw [h2] at this
  exact this
theorem Lp.none {G : Fg} (hG : G.Ok) {f : Int → Option Int} (h : Lp G G.n f) {s : Nat} (hl : G.lead s = false) : f (s : Int) = none := by
  cases hf : f (s : Int) with
  | none => rfl
  | some y =>
    obtain ⟨a, ha, e⟩ := List.mem_map.1 ((h.key (s : Int)).2 (by rw [hf]; rfl))
    have e' : a = s := by have : ((a : Nat) : Int) = (s : Int) := e; omega
    rw [e'] at ha
    rw [((Fg.mem_ls hG).1 ha).2] at hl
    cases hl
theorem ls_lt (G : Fg) : (G.ls.map Int.ofNat).Pairwise (· < ·) := List.pairwise_map.2 (G.ls_sorted.imp (fun h => Int.ofNat_lt.2 h))
/-- the map in memory -/
structure Lq (w W : World) (b n : Nat) (f : Int → Option Int) : Prop where
  low : Below w.heap.size w W
  bb : w.heap.size ≤ b
  mp : Mp W b n f
theorem Lq.next {w W W' : World} {b n : Nat} {f : Int → Option Int} (h : Lq w W b n f) (hb : Below W.heap.size W W') : Lq w W' b n f :=
  ⟨h.low.trans (hb.mono h.low.size), h.bb, h.mp.next hb⟩
theorem Lq.put {w W W' : World} {b n m : Nat} {f g : Int → Option Int} (h : Lq w W b n f) (hm : Mp W' b m g) (hg : W.grownBy W' (some b)) : Lq w W' b m g :=
  ⟨h.low.grown hg h.low.size (fun k hk => by cases hk; exact h.bb), h.bb, hm⟩
/-- and a row beside it -/
structure Lr (w W : World) (b n : Nat) (f : Int → Option Int) (ps : Option Addr) (xs : List Int) : Prop where
  q : Lq w W b n f
  nu : NumsAt .i64 W ps xs
  ng : ∀ ad, ps = some ad → ad.block ≠ b
theorem Lr.put {w W W' : World} {b n m : Nat} {f g : Int → Option Int} {ps : Option Addr} {xs : List Int} (h : Lr w W b n f ps xs) (hm : Mp W' b m g) (hg : W.grownBy W' (some b)) : Lr w W' b m g ps xs :=
  ⟨h.q.put hm hg, h.nu.grown hg (fun ad e e2 => by injection e2 with e2; exact h.ng ad e e2.symm), h.ng⟩
theorem Lr.start {w W W' : World} {b n : Nat} {f : Int → Option Int} {ps : Option Addr} {xs : List Int} (h : Lq w W b n f) (hb : Below W.heap.size W W') (hn : NumsAt .i64 W' ps xs) (hp : ∀ ad, ps = some ad → W.heap.size ≤ ad.block) : Lr w W' b n f ps xs :=
  ⟨h.next hb, hn, fun ad e e2 => by have := hp ad e; have := h.mp.lt; omega⟩
set_option maxRecDepth 100000 in
set_option maxHeartbeats 2000000 in
theorem leaders_any (q : Option Addr) (qc : Nat) (l : List In) (p : Option Addr) (pc : Nat) (w : World) (h : InsAt w q l) (hc : (checkS l).2 = 0) (hr : NumsAt .i64 w p (reachI l)) :
    Calls Try.prog 20 #[.slice q l.length qc, .slice p (reachI l).length pc] w fun e w' => ∃ b n f, e = .returned (.map (some b)) ∧ Lp (gOf l) (gOf l).n f ∧ Lq w w' b n f := by
  have HG := Lib.hid (check_flow hc)
  have hN := (check_ok hc).1
  have HI := Lib.hid (fun W (hW : Below w.heap.size w W) => h.below hW)
  have HR := Lib.hid (fun W (hW : Below w.heap.size w W) => hr.below hW)
  have HSU := Lib.hid (fun (i : Int) (W : World) (hb : Below w.heap.size w W) => psucc_new q qc l i W (h.below hb))
  unfold SuccQ at HSU
  have HSI := Lib.hid (fun (i : Nat) (hi : (gOf l).R i) => su_int hc hi)
  have hrn : (reachI l).length = (gOf l).reach.length := by rw [reachI_ok hc]; simp
  have HRA : Hid (∀ k, k < (gOf l).reach.length → (reachI l).getD k 0 = (((gOf l).reach.getD k 0 : Nat) : Int)) := Lib.hid (fun k hk => by
    rw [reachI_ok hc, List.getD_eq_getElem?_getD, List.getElem?_map, List.getD_eq_getElem?_getD, List.getElem?_eq_getElem hk]; rfl)
  have HRR : Hid (∀ k, k < (gOf l).reach.length → (gOf l).R ((gOf l).reach.getD k 0)) := Lib.hid (fun k hk => (Fl.Fg.mem_reach HG.out).1 (Fl.getD_mem hk))
  have HNX := Lib.hid (fun k f (h : Lm (gOf l) k (((gOf l).su ((gOf l).reach.getD k 0)).length) f) hk hj => h.next hk hj)
  have HSK := Lib.hid (fun k f (h : Lm (gOf l) k 0 f) hk hj => h.skip hk hj)
  have HST := Lib.hid (fun k m f (h : Lm (gOf l) k m f) hm => h.step hm)
  have HDN := Lib.hid (fun f (h : Lm (gOf l) (gOf l).reach.length 0 f) => h.done HG.out)
  have hs := hr.small
  obtain ⟨N, hNl⟩ : ∃ N, l.length = N := ⟨_, rfl⟩
  have HNL := Lib.hid hNl
  obtain ⟨M, hM⟩ : ∃ M, (gOf l).reach.length = M := ⟨_, rfl⟩
  have hMN : M ≤ 4096 := by
    have h2 : (gOf l).reach.length ≤ (List.range (gOf l).N).length := List.length_filter_le _ _
    have h3 : (gOf l).N ≤ 4096 := hN
    rw [List.length_range] at h2
    omega
  have hls : (gOf l).ls.length ≤ 4096 := by
    have h2 : (gOf l).ls.length ≤ (gOf l).reach.length := List.length_filter_le _ _
    omega
  rw [hM] at hrn HRA HRR HNX HSK HDN
  have HRN := Lib.hid hrn
  rw [hrn] at hs ⊢
  rw [hNl] at hN HSU ⊢
  have hmm := @run_makeMap Try.prog
  obtain ⟨w1, r1, o1, t1⟩ := (Mp.made w).update (k := 0) (x := 0) (by omega) (lit_wf (by omega) (by omega)) (lit_wf (by omega) (by omega))
  have HQ : Hid (Lq w w1 w.heap.size 1 (mput (fun _ => none) 0 0)) := Lib.hid ⟨((Below.refl _ _).alloc (Nat.le_refl _) _).grown t1 (by simp) (fun k hk => by cases hk; exact Nat.le_refl _), Nat.le_refl _, o1⟩
  have HL0 := Lib.hid (Lm.start (gOf l))
  clear h hc hNl hM hrn hr o1 t1
  go_enter Try.func20, Try.ntmps20
  go_wp2_with fail
  clear r1 hmm
  go_loopw [16] (fun v wr => ∃ (k n : Nat) (f : Int → Option Int), k ≤ M ∧ v = .int .i64 (k : Int) ∧ Hid (n ≤ 1 + 2 * k) ∧ Hid (Lm (gOf l) k 0 f) ∧ Lq w wr w.heap.size n f) (fun v _ => M - (RowKit.intOf v).toNat)
  case atStart => exact ⟨0, 1, _, Nat.zero_le _, rfl, Lib.hid (by omega), HL0, HQ.out⟩
  case round =>
    clear HQ HL0
    obtain ⟨k, n, f, hk, rfl, HNN, HLM, hq⟩ := hrel
    have HQ := Lib.hid hq
    by_cases hlt : k < M
    · obtain ⟨b1, o1, rfl, hl1, c0⟩ := (HR.out _ hq.low).cells k (by rw [HRN.out]; exact hlt)
      rw [HRA.out k hlt] at c0
      have hRi := HRR.out k hlt
      have hiN := (hRi.ok HG.out).1
      obtain ⟨b2, o2, rfl, hl2, d0, d1, d2, d3, d4, d5⟩ := (HI.out _ hq.low).cells ((gOf l).reach.getD k 0) hiN
      have HJ := Lib.hid (fun W => pjumps_any (l.getD ((gOf l).reach.getD k 0) z) ((HI.out _ hq.low).bd _ hiN) W)
      have hju : jB (l.getD ((gOf l).reach.getD k 0) z) = (gOf l).ju ((gOf l).reach.getD k 0) := rfl
      rw [hju] at HJ
      have HNX2 := Lib.hid (HNX.out k)
      have HSK2 := Lib.hid (HSK.out k f HLM.out hlt)
      have HST2 := Lib.hid (HST.out k)
      have HSR : Hid (∀ j, j < ((gOf l).su ((gOf l).reach.getD k 0)).length → (gOf l).R (((gOf l).su ((gOf l).reach.getD k 0)).getD j 0)) := Lib.hid (fun j hj => .step hRi (Fl.getD_mem hj))
      have HSI2 := HSU.out (((gOf l).reach.getD k 0 : Nat) : Int)
      rw [HSI.out _ hRi] at HSI2
      simp only [List.length_map] at HSI2
      have hS2 : ((gOf l).su ((gOf l).reach.getD k 0)).length ≤ 2 := by
        show ((succL l ((((gOf l).reach.getD k 0 : Nat)) : Int)).map Int.toNat).length ≤ 2
        rw [List.length_map]; exact succL_le l _
      have hiN2 : (gOf l).reach.getD k 0 < N := by rw [← HNL.out]; exact hiN
      generalize (gOf l).reach.getD k 0 = i at *
      generalize l.getD i z = X at *
      obtain ⟨SU, hSU⟩ : ∃ s, (gOf l).su i = s := ⟨_, rfl⟩
      rw [hSU] at HSI2 hS2 HSR HNX2 HST2
      obtain ⟨S, hS⟩ : ∃ n, SU.length = n := ⟨_, rfl⟩
      rw [hS] at HSI2 hS2 HSR HNX2 HST2
      have HSL := Lib.hid hS
      have HSX := Lib.hid HSI2
      clear hq hSU hS HSI2 hRi hiN hju
      cases hv : (gOf l).ju i with
      | false =>
        rw [hv] at HJ
        have HE := Lib.hid (HSK2.out hv)
        clear hv HNX2 HST2 HSK2
        go_wp2_with (go_at_call 35; (with_reducible refine (HJ.out _).mono ?_); rintro e w2 ⟨rfl, hb⟩; have HQ2 := Lib.hid (HQ.out.next hb); clear hb)
        go_roundw
        case rel => exact ⟨k + 1, n, f, by omega, rfl, Lib.hid (by have := HNN.out; omega), HE, HQ2.out⟩
        case measure => simp [RowKit.intOf]; omega
      | true =>
        rw [hv] at HJ
        have HNX3 := Lib.hid (fun f h => HNX2.out f h hlt hv)
        clear hv HNX2 HSK2
        go_wp2_with (first
          | (go_at_call 35; (with_reducible refine (HJ.out _).mono ?_); rintro e w2 ⟨rfl, hb⟩; have HQ2 := Lib.hid (HQ.out.next hb); clear hb)
          | (go_at_call 36; (with_reducible refine (HSX.out _ HQ2.out.low).mono ?_); rintro e w3 ⟨p3, c3, rfl, hn3, hb3, hp3⟩; have HR3 := Lib.hid (Lr.start HQ2.out hb3 hn3 hp3); clear hb3 hn3 hp3))
        go_loopw [30] (fun v wr2 => ∃ (m n2 : Nat) (f2 : Int → Option Int), m ≤ S ∧ v = .int .i64 (m : Int) ∧ Hid (n2 ≤ 1 + 2 * k + m) ∧ Hid (Lm (gOf l) k m f2) ∧ Lr w wr2 w.heap.size n2 f2 p3 (SU.map Int.ofNat)) (fun v _ => S - (RowKit.intOf v).toNat)
        case atStart => exact ⟨0, n, f, Nat.zero_le _, rfl, Lib.hid (by have := HNN.out; omega), HLM, HR3.out⟩
        case round =>
          clear HR3 HQ2 HQ d0 d1 d2 d3 d4 d5 c0
          obtain ⟨m, n2, f2, hm, rfl, HN2, HLM2, hr2⟩ := hrel
          have HLR := Lib.hid hr2
          by_cases hms : m < S
          · have hms2 : m < SU.length := by rw [HSL.out]; exact hms
            obtain ⟨b4, o4, rfl, hl4, e4⟩ := hr2.nu.cells m (by rw [List.length_map]; exact hms2)
            have hse : (SU.map Int.ofNat).getD m 0 = ((SU.getD m 0 : Nat) : Int) := by
              rw [List.getD_eq_getElem?_getD, List.getElem?_map, List.getD_eq_getElem?_getD, List.getElem?_eq_getElem hms2]; rfl
            rw [hse] at e4
            have hsN : SU.getD m 0 < N := by have := ((HSR.out m hms).ok HG.out).1; rw [← HNL.out]; exact this
            have HE := Lib.hid (HST2.out m f2 HLM2.out hms)
            generalize SU.getD m 0 = s at *
            clear hr2
            go_wp2_with (at_mapUpdate; refine wpList_mp_put rfl (.tmp 34) (.tmp 35) (.const (.int .i64 0)) rfl w.heap.size n2 f2 (s : Int) 0 rfl rfl rfl HLR.out.q.mp (by have := HN2.out; omega) (lit_wf (by omega) (by omega)) (lit_wf (by omega) (by omega)) ?_; intro w5 hm5 hg5; have HL5 := Lib.hid (HLR.out.put hm5 hg5); clear hm5 hg5)
            go_roundw
            case rel => exact ⟨m + 1, n2 + 1, _, by omega, rfl, Lib.hid (by have := HN2.out; omega), HE, HL5.out⟩
            case measure => simp [RowKit.intOf]; omega
          · obtain rfl : m = S := by omega
            have HE := Lib.hid (HNX3.out f2 HLM2.out)
            clear hr2
            go_wp2_with fail
            go_roundw
            case rel => exact ⟨k + 1, n2, f2, by omega, rfl, Lib.hid (by have := HN2.out; omega), HE, HLR.out.q⟩
            case measure => simp [RowKit.intOf]; omega
    · obtain rfl : M = k := by omega
      have hkey := HDN.out f HLM.out
      have HK := Lib.hid hkey
      have hll : ((gOf l).ls.map Int.ofNat).length = (gOf l).n := by rw [List.length_map]; rfl
      have HSO := Lib.hid (sorted_keys hq.mp (ls_lt (gOf l)) hkey (by rw [List.length_map]; omega))
      rw [hll] at HSO
      have HGA : Hid (∀ t, t < (gOf l).n → ((gOf l).ls.map Int.ofNat).getD t 0 = ((gOf l).fr t : Int)) := Lib.hid (fun t ht => by
        rw [List.getD_eq_getElem?_getD, List.getElem?_map]
        unfold Fg.fr
        rw [List.getD_eq_getElem?_getD, List.getElem?_eq_getElem ht]; rfl)
      have HFR : Hid (∀ t, t < (gOf l).n → (gOf l).fr t < N) := Lib.hid (fun t ht => by have := ((Fg.fr_ok HG.out ht).1.ok HG.out).1; rw [← HNL.out]; exact this)
      have HP0 : Hid (Lp (gOf l) 0 f) := Lib.hid ⟨hkey, fun a ha => absurd ha (Nat.not_lt_zero _)⟩
      have HPS := Lib.hid (fun t f (h : Lp (gOf l) t f) ht => h.step ht)
      obtain ⟨T, hT⟩ : ∃ n, (gOf l).n = n := ⟨_, rfl⟩
      have hTN : T ≤ 4096 := by rw [← hT]; exact hls
      rw [hT] at HSO HGA HFR HPS
      have HTT := Lib.hid hT
      have HLL := Lib.hid (hll.trans hT)
      generalize (gOf l).ls.map Int.ofNat = ks at *
      clear hq hkey hll hT
      go_wp2_with (first
        | (go_at_call 38; (with_reducible refine (maps_keys _ _).mono ?_); rintro e w2 ⟨rfl, rfl⟩)
        | (go_at_call 37; (with_reducible refine HSO.out.mono ?_); rintro e w3 ⟨p3, c3, rfl, hn3, hb3, hp3⟩; have HR3 := Lib.hid (Lr.start HQ.out hb3 hn3 (fun ad e => Nat.le_of_lt (hp3 ad e))); clear hb3 hn3 hp3))
      go_loopw [42] (fun v wr2 => ∃ (t n2 : Nat) (f2 : Int → Option Int), t ≤ T ∧ v = .int .i64 (t : Int) ∧ Hid (n2 ≤ 1 + 2 * M + t) ∧ Hid (Lp (gOf l) t f2) ∧ Lr w wr2 w.heap.size n2 f2 p3 ks) (fun v _ => T - (RowKit.intOf v).toNat)
      case atStart => exact ⟨0, n, f, Nat.zero_le _, rfl, HNN, HP0, HR3.out⟩
      case round =>
        clear HR3 HQ HP0
        obtain ⟨t, n2, f2, ht, rfl, HN2, HP2, hr2⟩ := hrel
        have HLR := Lib.hid hr2
        by_cases htt : t < T
        · obtain ⟨b4, o4, rfl, hl4, e4⟩ := hr2.nu.cells t (by rw [HLL.out]; exact htt)
          rw [HGA.out t htt] at e4
          have hsN := HFR.out t htt
          have HE := Lib.hid (HPS.out t f2 HP2.out htt)
          generalize (gOf l).fr t = s at *
          clear hr2
          go_wp2_with (at_mapUpdate; refine wpList_mp_put rfl (.tmp 47) (.tmp 48) (.tmp 49) rfl w.heap.size n2 f2 (s : Int) (t : Int) rfl rfl rfl HLR.out.q.mp (by have := HN2.out; omega) (lit_wf (by omega) (by omega)) (lit_wf (by omega) (by omega)) ?_; intro w5 hm5 hg5; have HL5 := Lib.hid (HLR.out.put hm5 hg5); clear hm5 hg5)
          go_roundw
          case rel => exact ⟨t + 1, n2 + 1, _, by omega, rfl, Lib.hid (by have := HN2.out; omega), HE, HL5.out⟩
          case measure => simp [RowKit.intOf]; omega
        · obtain rfl : T = t := by omega
          clear hr2
          go_wp2_with fail
          go_ret
          exact ⟨_, n2, f2, rfl, by rw [HTT.out]; exact HP2.out, HLR.out.q⟩
end Go.Proofs.Ytlpijnnlmgoihaa
