/- Dominance: the document's own Dominates and Idom. -/
import Derived.Test.YtgaacdnljkildaaDG
namespace Go.Proofs.Ytgaacdnljkildaa
open Go.RowKit
open Dm

set_option maxRecDepth 100000 in
set_option maxHeartbeats 1000000 in
theorem rdom_any (q : Option Addr) (qc : Nat) (g : List (List Int)) (a b : Int) (w : World) (h : GsAt w q g) (hN : g.length ≤ 4096) (hT : tot g ≤ 1048576) : Calls Try.prog 14 #[.slice q g.length qc, .int .i64 a, .int .i64 b] w fun e w' => e = .returned (.bool (domB g a b)) ∧ Below w.heap.size w w' := by
  have HT := Lib.hid (rtable_any q qc g w h hN hT)
  unfold TableQ at HT
  have HO := Lib.hid (fun hh => domB_out (g := g) (a := a) (b := b) hh)
  have HDA := Lib.hid (fun a b (hb : b < g.length) => domR_at (g := g) (a := a) (b := b) hb)
  generalize domR g = D at *
  by_cases a0 : 0 ≤ a
  · by_cases aN : a < (g.length : Int)
    · by_cases b0 : 0 ≤ b
      · by_cases bN : b < (g.length : Int)
        · obtain ⟨i, rfl⟩ : ∃ i : Nat, a = (i : Int) := ⟨a.toNat, by omega⟩
          obtain ⟨j, rfl⟩ : ∃ j : Nat, b = (j : Int) := ⟨b.toNat, by omega⟩
          have HV := Lib.hid (HDA.out i j (by omega))
          generalize domB g (i : Int) (j : Int) = v at *
          generalize g.length = N at *
          have hi : i < N := by omega
          have hj : j < N := by omega
          clear h HO HDA
          go_enter Try.func14, Try.ntmps14
          go_wp2_with (go_at_call 26; (with_reducible refine HT.out.mono ?_); rintro e w1 ⟨p, c, rfl, ht, hb⟩; have HB := Lib.hid hb; obtain ⟨b1, o1, gb, rfl, hl1, c0, hr, hd⟩ := ht.cells i hi; have c1 := hr.cell j (by rw [hd]; exact hj); have l1 := hr.lt; rw [HV.out] at c1; clear hb ht hr hd)
          go_ret
          exact ⟨rfl, HB.out⟩
        · rw [HO.out (fun c => bN c.2.2.2)]
          generalize g.length = N at *
          clear h HO HT HDA
          go_enter Try.func14, Try.ntmps14
          go_wp2
          go_ret
          exact ⟨rfl, Below.refl _ _⟩
      · rw [HO.out (fun c => b0 c.2.2.1)]
        generalize g.length = N at *
        clear h HO HT HDA
        go_enter Try.func14, Try.ntmps14
        go_wp2
        go_ret
        exact ⟨rfl, Below.refl _ _⟩
    · rw [HO.out (fun c => aN c.2.1)]
      generalize g.length = N at *
      clear h HO HT HDA
      go_enter Try.func14, Try.ntmps14
      go_wp2
      go_ret
      exact ⟨rfl, Below.refl _ _⟩
  · rw [HO.out (fun c => a0 c.1)]
    generalize g.length = N at *
    clear h HO HT HDA
    go_enter Try.func14, Try.ntmps14
    go_wp2
    go_ret
    exact ⟨rfl, Below.refl _ _⟩
/-- a row of numbers that is being made -/
structure Ri (w W : World) (l : List Int) (q : Option Addr) (c : Nat) : Prop where
  low : Below w.heap.size w W
  own : W.ownsRow w.heap.size 3 1 (.slice q l.length c) l.length (intsV l)
theorem Ri.nil (w : World) : Ri w w [] none 0 := ⟨Below.refl _ _, World.ownsRow_nil _ _ _ _⟩
theorem Ri.next {w W W' : World} {l : List Int} {q : Option Addr} {c : Nat} (h : Ri w W l q c) (hb : Below W.heap.size W W') : Ri w W' l q c :=
  ⟨h.low.trans (hb.mono h.low.size), own_below h.own hb⟩
theorem Ri.app {w W W' : World} {l xs : List Int} {q q' : Option Addr} {c c' n m : Nat} (h : Ri w W l q c) (hn : l.length = n) (ho : W'.ownsRow w.heap.size 3 1 (.slice q' m c') (l ++ xs).length (intsV (l ++ xs))) (hm : (l ++ xs).length = m) (hg : W.grownBy W' (Value.slice q n c).ownBlock) : Ri w W' (l ++ xs) q' c' := by
  subst hn hm
  rw [own_blk] at hg
  exact ⟨h.low.grown hg h.low.size (fun k hk => (h.own.lt k (by rw [own_blk]; exact hk)).1), ho⟩
/-- what Idom answers -/
def NumsQ (l : List Int) (w : World) (e : Ending) (w' : World) : Prop :=
  ∃ p c, e = .returned (.slice p l.length c) ∧ NumsAt .i64 w' p l ∧ Below w.heap.size w w'
theorem Ri.done {w w1 W : World} {l : List Int} {q : Option Addr} {c : Nat} (h : Ri w1 W l q c) (hb : Below w.heap.size w w1) (hl : l.length ≤ 4096) : NumsQ l w (.returned (.slice q l.length c)) W :=
  ⟨q, c, rfl, own_nums h.own (by omega), hb.trans (h.low.mono hb.size)⟩
theorem idom_step (g : List (List Int)) (k : Nat) : (List.range (k + 1)).map (upv (gL g)) = (List.range k).map (upv (gL g)) ++ [upv (gL g) k] := by
  rw [List.range_succ, List.map_append]; rfl
set_option maxRecDepth 100000 in
set_option maxHeartbeats 4000000 in
theorem ridom_any (q : Option Addr) (qc : Nat) (g : List (List Int)) (w : World) (h : GsAt w q g) (hN : g.length ≤ 4096) (hT : tot g ≤ 1048576) : Calls Try.prog 17 #[.slice q g.length qc] w (NumsQ (idomL g) w) := by
  have HT := Lib.hid (rtable_any q qc g w h hN hT)
  unfold TableQ at HT
  have HQ : Hid (∀ w1 W p c, Below w.heap.size w w1 → Ri w1 W ((List.range g.length).map (upv (gL g))) p c → NumsQ (idomL g) w (.returned (.slice p g.length c)) W) := Lib.hid (fun w1 W p c h1 h2 => by
    have := h2.done h1 (by simpa using hN)
    rwa [show ((List.range g.length).map (upv (gL g))).length = g.length by simp] at this)
  have HDA : Hid (∀ a b, a < g.length → b < g.length → ((domR g a).getD b false = true ↔ (gL g).D a b)) := Lib.hid (fun a b _ hb => by rw [domR_at hb]; exact domB_iff)
  have HEND : Hid (∀ b v, (gL g).Best b g.length v → v = upv (gL g) b) := Lib.hid (fun b v hv => upv_is hv.done)
  have HST := Lib.hid (idom_step g)
  have HLN : Hid (∀ k, ((List.range k).map (upv (gL g))).length = k) := Lib.hid (fun k => by simp)
  generalize NumsQ (idomL g) w = Q at *
  generalize domR g = D at *
  generalize gL g = G at *
  obtain ⟨N, hNl⟩ : ∃ N, g.length = N := ⟨_, rfl⟩
  rw [hNl] at hN HT HQ HDA HEND ⊢
  have HN9 := Lib.hid (fun (x : Int) W => nums_new (k := .i64) W 3 [x] #[.int .i64 x] rfl (by simp))
  clear h hNl
  go_enter Try.func17, Try.ntmps17
  go_wp2_with (go_at_call 26; (with_reducible refine HT.out.mono ?_); rintro e w1 ⟨pt, ct, rfl, ht, hb⟩; have HB := Lib.hid hb; have HTT := Lib.hid ht; clear hb ht)
  go_loopw [4, 5] (fun o v wr => ∃ (k : Nat) (p : Option Addr) (c : Nat), k ≤ N ∧ v = .int .i64 (k : Int) ∧ o = .slice p k c ∧ Ri w1 wr ((List.range k).map (upv G)) p c) (fun _ v _ => N - (intOf v).toNat)
  case atStart => exact ⟨0, none, 0, Nat.zero_le _, rfl, rfl, Ri.nil w1⟩
  case round =>
    clear HT
    obtain ⟨k, p, c, hk, rfl, rfl, hri⟩ := hrel
    have HR := Lib.hid hri
    by_cases hlt : k < N
    · clear hri
      go_wp2_with fail
      go_loop [6, 7] (fun v i => ∃ (m : Nat) (b : Int), m ≤ N ∧ i = .int .i64 (m : Int) ∧ v = .int .i64 b ∧ Hid (G.Best k m b)) (fun _ i => N - (intOf i).toNat)
      case atStart => exact ⟨0, -1, Nat.zero_le _, rfl, rfl, Lib.hid (Dg.Best.start k)⟩
      case round =>
        obtain ⟨m, b, hm, rfl, rfl, HBE⟩ := hrel
        by_cases hmN : m < N
        · by_cases hmk : m = k
          · have hb : ((m : Int) != (k : Int)) = false := by simp [hmk]
            have HE := Lib.hid (HBE.out.no (fun c => c.1 hmk))
            clear hmk
            go_wp2_with fail
            go_round
            case rel => exact ⟨m + 1, b, by omega, rfl, rfl, HE⟩
            case measure => simp [intOf]; omega
          · have hb : ((m : Int) != (k : Int)) = true := by simp; omega
            obtain ⟨b1, o1, gb, hpt, hl1, c0, hr, hd⟩ := (HTT.out.below HR.out.low).cells m hmN
            have c1 := hr.cell k (by rw [hd]; exact hlt)
            have l1 := hr.lt
            have HD := Lib.hid (HDA.out m k hmN hlt)
            clear hr hd
            cases hv : (D m).getD k false with
            | false =>
              rw [hv] at c1 HD
              have HE := Lib.hid (HBE.out.no (fun c => by have := HD.out.2 c.2; cases this))
              subst hpt
              clear hv
              go_wp2_with fail
              go_round
              case rel => exact ⟨m + 1, b, by omega, rfl, rfl, HE⟩
              case measure => simp [intOf]; omega
            | true =>
              rw [hv] at c1 HD
              have HDT := Lib.hid (HD.out.1 rfl)
              clear hv
              by_cases b0 : b < 0
              · have HE : Hid (G.Best k (m + 1) (m : Int)) := Lib.hid (by
                  have hbe := HBE.out
                  have e : b = -1 := by
                    rcases hbe with ⟨e, _⟩ | ⟨a, e, _⟩
                    · exact e
                    · omega
                  rw [e] at hbe
                  exact hbe.first hmk HDT.out)
                subst hpt
                go_wp2_with fail
                go_round
                case rel => exact ⟨m + 1, (m : Int), by omega, rfl, rfl, HE⟩
                case measure => simp [intOf]; omega
              · obtain ⟨a, rfl, ham⟩ : ∃ a : Nat, b = (a : Int) ∧ a < m := by
                  rcases HBE.out with ⟨e, _⟩ | ⟨a, e, h1, _⟩
                  · omega
                  · exact ⟨a, e, h1⟩
                have haN : a < N := by omega
                obtain ⟨b2, o2, gb2, hpt2, hl2, d0, hr2, hd2⟩ := (HTT.out.below HR.out.low).cells a haN
                obtain ⟨rfl, rfl⟩ : b1 = b2 ∧ o1 = o2 := by rw [hpt] at hpt2; injection hpt2 with e; injection e with e1 e2; exact ⟨e1, e2⟩
                have d1 := hr2.cell m (by rw [hd2]; exact hmN)
                have l2 := hr2.lt
                have HD2 := Lib.hid (HDA.out a m haN hmN)
                clear hr2 hd2 hpt2
                subst hpt
                cases hv : (D a).getD m false with
                | false =>
                  rw [hv] at d1 HD2
                  have HE := Lib.hid (HBE.out.keep (fun c => by have := HD2.out.2 c; cases this))
                  clear hv
                  go_wp2_with fail
                  go_round
                  case rel => exact ⟨m + 1, (a : Int), by omega, rfl, rfl, HE⟩
                  case measure => simp [intOf]; omega
                | true =>
                  rw [hv] at d1 HD2
                  have HE := Lib.hid (HBE.out.new hmk HDT.out (HD2.out.1 rfl))
                  clear hv
                  go_wp2_with fail
                  go_round
                  case rel => exact ⟨m + 1, (m : Int), by omega, rfl, rfl, HE⟩
                  case measure => simp [intOf]; omega
        · obtain rfl : m = N := by omega
          have HE := Lib.hid (HEND.out k b HBE.out)
          have HS := Lib.hid (HST.out k)
          have HL := Lib.hid (HLN.out k)
          clear HEND HST HLN HDA
          generalize (List.range k).map (upv G) = l0 at *
          go_wp2_with (at_builtin; refine wpList_app_ints rfl (.tmp 48) (.tmp 50) rfl rfl w1.heap.size (some ⟨wr.heap.size, 0, none⟩) [b] l0 (.slice p k c) 1 1 rfl rfl rfl (HL.out ▸ (HR.out.next ((Below.refl _ _).alloc (Nat.le_refl _) _)).own) (HN9.out _ _) (by have := HR.out.low.size; simp; omega) (by rw [HL.out]; simp; omega) ?_; intro v8 w8 ho8 hg8 hb8; obtain ⟨q8, c8, rfl⟩ := own_form ho8; have HP := Lib.hid ((HR.out.next ((Below.refl _ _).alloc (Nat.le_refl _) _)).app HL.out ho8 rfl hg8); clear ho8 hg8 hb8)
          go_roundw
          case rel => exact ⟨k + 1, q8, c8, by omega, rfl, by simp [HL.out], by rw [HS.out, ← HE.out]; exact HP.out⟩
          case measure => simp [intOf]; omega
    · obtain rfl : k = N := by omega
      have HD := Lib.hid (HQ.out w1 wr p c HB.out HR.out)
      clear hri
      go_wp2_with fail
      exact HD.out
end Go.Proofs.Ytgaacdnljkildaa
