/- Flow: package flow's own link: which blocks lead to which. -/
import Derived.Test.YtlpijnnlmgoihaaHE
namespace Go.Proofs.Ytlpijnnlmgoihaa
open Go.RowKit M
open Fl (upd upd_same upd_other)

theorem contains_nums (q : Option Addr) (qc : Nat) (l : List Int) (x : Int) (w : World) (h : NumsAt .i64 w q l) : Calls Try.prog 40 #[.slice q l.length qc, .int .i64 x] w fun e w' => e = .returned (.bool (decide (x ∈ l))) ∧ w = w' := by
  have hs := h.small
  cases l with
  | nil =>
    refine (Try.slices_Contains_int_empty q qc x w).mono ?_
    rintro e w' ⟨rfl, rfl⟩
    exact ⟨by simp, rfl⟩
  | cons y l =>
    obtain ⟨b, off, rfl, _, _⟩ := h.cells 0 (by simp)
    refine (Try.slices_Contains_int b off (y :: l).length qc (y :: l) x w (Nat.le_refl _) (by omega) (fun j hj => ?_)).mono ?_
    · obtain ⟨b', off', e, _, hc⟩ := h.cells j hj
      injection e with e
      injection e with e1 e2
      subst e1 e2
      exact hc
    · rintro e w' ⟨rfl, rfl⟩
      refine ⟨?_, rfl⟩
      rw [List.take_length]
      congr 2
      rw [Bool.eq_iff_iff, List.contains_iff_mem, decide_eq_true_eq]
/-- blocks, and the map of places -/
structure Bo (w W : World) (g n : Nat) (G : Fl.Fg) (P : Nat → Option Addr) (C : Nat → Nat) (R : Nat → List Nat) (b nn : Nat) (f : Int → Option Int) : Prop where
  bm : Bm w W g n G P C R
  mp : Mp W b nn f
  nb : g ≠ b
  nq : ∀ r, r < 2 * n → (P r).map Addr.block ≠ some b
structure Bn (w W : World) (g n : Nat) (G : Fl.Fg) (P : Nat → Option Addr) (C : Nat → Nat) (R : Nat → List Nat) (ps : Option Addr) (xs : List Int) (b nn : Nat) (f : Int → Option Int) : Prop where
  bj : Bj w W g n G P C R ps xs
  mp : Mp W b nn f
  nb : g ≠ b
  nq : ∀ r, r < 2 * n → (P r).map Addr.block ≠ some b
theorem Bn.o {w W : World} {g n : Nat} {G : Fl.Fg} {P : Nat → Option Addr} {C : Nat → Nat} {R : Nat → List Nat} {ps : Option Addr} {xs : List Int} {b nn : Nat} {f : Int → Option Int} (h : Bn w W g n G P C R ps xs b nn f) : Bo w W g n G P C R b nn f :=
  ⟨h.bj.bm, h.mp, h.nb, h.nq⟩
theorem Bn.start {w W W' : World} {g n : Nat} {G : Fl.Fg} {P : Nat → Option Addr} {C : Nat → Nat} {R : Nat → List Nat} {ps : Option Addr} {xs : List Int} {b nn : Nat} {f : Int → Option Int} (h : Bo w W g n G P C R b nn f) (hb : Below W.heap.size W W') (hn : NumsAt .i64 W' ps xs) (hp : ∀ ad, ps = some ad → W.heap.size ≤ ad.block) : Bn w W' g n G P C R ps xs b nn f :=
  ⟨Bj.start h.bm hb hn hp, h.mp.next hb, h.nb, h.nq⟩
theorem Bn.next {w W W' : World} {g n : Nat} {G : Fl.Fg} {P : Nat → Option Addr} {C : Nat → Nat} {R : Nat → List Nat} {ps : Option Addr} {xs : List Int} {b nn : Nat} {f : Int → Option Int} (h : Bn w W g n G P C R ps xs b nn f) (hb : Below W.heap.size W W') : Bn w W' g n G P C R ps xs b nn f :=
  ⟨h.bj.next hb, h.mp.next hb, h.nb, h.nq⟩
theorem Bn.app {w W W' : World} {g n r x m c' o : Nat} {q' : Option Addr} {G : Fl.Fg} {P : Nat → Option Addr} {C : Nat → Nat} {R : Nat → List Nat} {ps : Option Addr} {xs : List Int} {v : Value} {b nn : Nat} {f : Int → Option Int} (h : Bn w W g n G P C R ps xs b nn f) (hv : v.ownBlock = (P r).map Addr.block) (hr : r < 2 * n) (heo : o = r / 2 * 5 + 3 + r % 2)
    (ho : W'.ownsRow w.heap.size 3 1 (.slice q' m c') ((R r).map Int.ofNat ++ [(x : Int)]).length (intsV ((R r).map Int.ofNat ++ [(x : Int)]))) (hm : m = (R r).length + 1) (hg : W.grownBy W' v.ownBlock) (hb : (Value.slice q' m c').ownBlock = v.ownBlock ∨ (Value.slice q' m c').ownBlock = some W.heap.size)
    (hlt : ∀ ad, ps = some ad → ad.block < W.heap.size) :
    Bn w (W'.setCell ⟨g, o, none⟩ (.slice q' m c')) g n G (upd P r q') (upd C r c') (upd R r (R r ++ [x])) ps xs b nn f := by
  refine ⟨h.bj.app hv hr heo ho hm hg hb hlt, (h.mp.kept hg (fun e => h.nq r hr (by rw [← hv]; exact e.symm))).other (a := ⟨g, o, none⟩) h.nb _, h.nb, fun s hs => ?_⟩
  rw [hv] at hb
  rw [own_blk] at hb
  by_cases e2 : s = r
  · subst e2
    rw [upd_same]
    rcases hb with e3 | e3
    · rw [e3]; exact h.nq s hs
    · rw [e3]
      intro e4
      injection e4 with e4
      have := h.mp.lt
      omega
  · rw [upd_other _ _ e2]; exact h.nq s hs
theorem Bn.contains {w W : World} {g n r : Nat} {G : Fl.Fg} {P : Nat → Option Addr} {C : Nat → Nat} {R : Nat → List Nat} {ps : Option Addr} {xs : List Int} {b nn : Nat} {f : Int → Option Int} (h : Bn w W g n G P C R ps xs b nn f) (hr : r < 2 * n) (hl : (R r).length ≤ 8192) (t : Nat) {y : Bool} (hb : y = decide (t ∈ R r)) : Calls Try.prog 40 #[.slice (P r) (R r).length (C r), .int .i64 (t : Int)] W fun e w' => e = .returned (.bool y) ∧ W = w' := by
  have o := h.bj.row hr
  have el : (R r).length = ((R r).map Int.ofNat).length := by simp
  rw [el] at o
  have hN := own_nums o (by rw [← el]; omega)
  rw [el]
  refine (contains_nums (P r) (C r) ((R r).map Int.ofNat) (t : Int) W hN).mono ?_
  rintro e w' ⟨rfl, rfl⟩
  refine ⟨?_, rfl⟩
  rw [hb]
  congr 3
  rw [eq_iff_iff, List.mem_map]
  constructor
  · rintro ⟨a, ha, e⟩
    have : a = t := by have : (a : Int) = (t : Int) := e; omega
    exact this ▸ ha
  · intro ha; exact ⟨t, ha, rfl⟩
set_option maxRecDepth 100000 in
set_option maxHeartbeats 4000000 in
theorem link_any (q : Option Addr) (qc : Nat) (l : List In) (g2 c b nn : Nat) (f : Int → Option Int) (w W : World) (h : InsAt w q l) (hc : (checkS l).2 = 0) (hb : Bm w W g2 (gOf l).n (gOf l) (fun _ => none) (fun _ => 0) ((gOf l).row 0 0)) (hm : Mp W b nn f) (hp : Lp (gOf l) (gOf l).n f) (hbg : g2 ≠ b) :
    Calls Try.prog 22 #[.slice q l.length qc, .slice (some ⟨g2, 0, none⟩) (gOf l).n c, .map (some b)] W fun e w' => e = .returned (.tuple #[]) ∧ ∃ P C, Bm w w' g2 (gOf l).n (gOf l) P C ((gOf l).row (gOf l).n 0) := by
  have HG := Lib.hid (check_flow hc)
  have hN := (check_ok hc).1
  have HCK := Lib.hid hc
  have HSU := Lib.hid (fun (i : Int) (W : World) (hW : Below w.heap.size w W) => psucc_new q qc l i W (h.below hW))
  unfold SuccQ at HSU
  have HS2 : Hid (∀ i, ((gOf l).su i).length ≤ 2) := Lib.hid (fun i => by
    show ((succL l (i : Int)).map Int.toNat).length ≤ 2
    rw [List.length_map]; exact succL_le l _)
  have HRL : Hid (∀ k j r, j ≤ 2 → ((gOf l).row k j r).length ≤ k + 2) := Lib.hid (fun k j r hj => Fl.Fg.row_len (fun k => HS2.out _) hj r)
  have HLE := Lib.hid (fun s hs hl => hp.lead HG.out (s := s) hs hl)
  obtain ⟨N, hNl⟩ : ∃ N, l.length = N := ⟨_, rfl⟩
  have HNL := Lib.hid hNl
  have hnM : (gOf l).n ≤ 4096 := by
    have h2 : (gOf l).ls.length ≤ (gOf l).reach.length := List.length_filter_le _ _
    have h3 : (gOf l).reach.length ≤ (List.range (gOf l).N).length := List.length_filter_le _ _
    have h4 : (gOf l).N ≤ 4096 := hN
    rw [List.length_range] at h3
    have : (gOf l).ls.length = (gOf l).n := rfl
    omega
  obtain ⟨n, hn⟩ : ∃ n, (gOf l).n = n := ⟨_, rfl⟩
  have HNN := Lib.hid hn
  have HFR : Hid (∀ k, k < n → (gOf l).R ((gOf l).fr k)) := Lib.hid (fun k hk => (Fl.Fg.fr_ok HG.out (by rw [HNN.out]; exact hk)).1)
  rw [hn] at hb hnM ⊢
  rw [hNl] at hN HSU ⊢
  have HB : Hid (Bo w W g2 n (gOf l) (fun _ => none) (fun _ => 0) ((gOf l).row 0 0) b nn f) := Lib.hid ⟨hb, hm, hbg, fun r hr => by simp⟩
  clear h hc hb hm hp hbg hn hNl
  go_enter Try.func22, Try.ntmps22
  go_wp2_with fail
  go_loopw [12] (fun v wr2 => ∃ (k : Nat) (P : Nat → Option Addr) (C : Nat → Nat), k ≤ n ∧ v = .int .i64 (k : Int) ∧ Bo w wr2 g2 n (gOf l) P C ((gOf l).row k 0) b nn f) (fun v _ => n - (RowKit.intOf v).toNat)
  case atStart => exact ⟨0, _, _, Nat.zero_le _, rfl, HB.out⟩
  case round =>
    clear HB
    obtain ⟨k, P, C, hk, rfl, hbm⟩ := hrel
    have HB := Lib.hid hbm
    by_cases hlt : k < n
    · obtain ⟨c0, c1, c2⟩ := hbm.bm.c k hlt
      have hgl := hbm.bm.gl
      obtain ⟨l1, l2, _⟩ := Fl.Fg.last_ok HG.out _ (HFR.out k hlt)
      have HSI := HSU.out ((gOf l).la k : Int)
      have l1' : (gOf l).R ((gOf l).la k) := l1
      rw [su_ints HCK.out l1'] at HSI
      simp only [List.length_map] at HSI
      have HSL : Hid (∀ s ∈ (gOf l).su ((gOf l).la k), (gOf l).R s ∧ (gOf l).lead s = true) := Lib.hid (fun s hs => Fl.Fg.su_lead HG.out l1 l2 hs)
      have HSI2 := Lib.hid HSI
      have hS2 := HS2.out ((gOf l).la k)
      have HNXT := Lib.hid (Fl.Fg.row_next (gOf l) k)
      have HOLD := Lib.hid (fun j (hj : j < ((gOf l).su ((gOf l).la k)).length) h => Fl.Fg.row_old (G := gOf l) (k := k) (j := j) hj h)
      have HNEW := Lib.hid (fun j t (hj : j < ((gOf l).su ((gOf l).la k)).length) ht h => Fl.Fg.row_new (G := gOf l) (k := k) (j := j) (t := t) hj ht h)
      have HHERE := Lib.hid (fun j => Fl.Fg.row_here (gOf l) k j)
      obtain ⟨SU, hSU⟩ : ∃ n, (gOf l).su ((gOf l).la k) = n := ⟨_, rfl⟩
      obtain ⟨LA, hLA⟩ : ∃ n, (gOf l).la k = n := ⟨_, rfl⟩
      obtain ⟨S, hS⟩ : ∃ n, SU.length = n := ⟨_, rfl⟩
      rw [hSU] at HSI2 HSL hS2 HNXT HOLD HNEW
      rw [hS] at HSI2 hS2 HNXT HOLD HNEW
      rw [hLA] at c2 HSI2
      have HS := Lib.hid hS
      clear hbm c0 c1 l1 l2 l1' HSI hSU hLA hS
      go_wp2_with (go_at_call 36; (with_reducible refine (HSI2.out _ HB.out.bm.low).mono ?_); rintro e w5 ⟨p5, c5, rfl, hn5, hb5, hp5⟩; have HJ := Lib.hid (Bn.start HB.out hb5 hn5 hp5); clear hb5 hn5 hp5)
      go_loopw [23] (fun v wr3 => ∃ (j : Nat) (P : Nat → Option Addr) (C : Nat → Nat), j ≤ S ∧ v = .int .i64 (j : Int) ∧ Bn w wr3 g2 n (gOf l) P C ((gOf l).row k j) p5 (SU.map Int.ofNat) b nn f) (fun v _ => S - (RowKit.intOf v).toNat)
      case atStart => exact ⟨0, P, C, Nat.zero_le _, rfl, HJ.out⟩
      case round =>
        clear HJ HB c2 hgl P C
        obtain ⟨j, P, C, hj, rfl, hbj⟩ := hrel
        have HJ := Lib.hid hbj
        by_cases hjs : j < S
        · have hjs2 : j < SU.length := by rw [HS.out]; exact hjs
          obtain ⟨b4, o4, rfl, hl4, e4⟩ := hbj.bj.nu.cells j (by rw [List.length_map]; exact hjs2)
          have hse : (SU.map Int.ofNat).getD j 0 = ((SU.getD j 0 : Nat) : Int) := by
            rw [List.getD_eq_getElem?_getD, List.getElem?_map, List.getD_eq_getElem?_getD, List.getElem?_eq_getElem hjs2]; rfl
          rw [hse] at e4
          have hsm : SU.getD j 0 ∈ SU := Fl.getD_mem hjs2
          obtain ⟨r1, r2⟩ := HSL.out _ hsm
          have hsN : SU.getD j 0 < N := by have := (r1.ok HG.out).1; rw [← HNL.out]; exact this
          have HOLD2 := Lib.hid (HOLD.out j hjs)
          have HNEW2 := Lib.hid (fun t => HNEW.out j t hjs)
          generalize SU.getD j 0 = s at *
          obtain ⟨t1, t2, _⟩ := Fl.Fg.fd_lead HG.out r1 r2
          rw [HNN.out] at t1
          have HFD := Lib.hid (HLE.out s r1 r2)
          generalize (gOf l).fd s = t at *
          have HHR := Lib.hid (HHERE.out j)
          have HL0 := Lib.hid (HRL.out k j (2 * k) (by omega))
          have HL1 := Lib.hid (HRL.out k j (2 * t + 1) (by omega))
          have p0 := hbj.bj.at (r := 2 * k) (o := k * 5 + 3) (by omega) (by omega)
          have hgl := hbj.bj.bm.gl
          by_cases hin : t ∈ (gOf l).row k j (2 * k)
          · have HE := Lib.hid (HOLD2.out (HHR.out ▸ hin))
            have HHS := Lib.hid (hbj.contains (r := 2 * k) (by omega) (by have := HL0.out; omega) t (y := true) (by simp [hin]))
            clear hbj hin hsm r1 r2 t2 HNEW2 HNEW HOLD
            generalize (gOf l).row k j = R0 at *
            go_wp2_with (first
              | (at_lookup; refine wpList_mp_look rfl (.tmp 27) (.tmp 28) rfl b nn f (s : Int) (t : Int) rfl rfl HJ.out.mp (lit_wf (by omega) (by omega)) HFD.out ?_)
              | (go_at_call 40; (with_reducible refine HHS.out.mono ?_); rintro e w7 ⟨rfl, rfl⟩))
            go_roundw
            case rel => exact ⟨j + 1, P, C, by omega, rfl, by rw [HE.out]; exact HJ.out⟩
            case measure => simp [RowKit.intOf]; omega
          · have HE := Lib.hid (HNEW2.out t rfl (fun c => hin (HHR.out ▸ c)))
            have HHS := Lib.hid (hbj.contains (r := 2 * k) (by omega) (by have := HL0.out; omega) t (y := false) (by simp [hin]))
            have HHL := Lib.hid hl4
            clear hbj hin hsm r1 r2 t2 HNEW2 HNEW HOLD HOLD2 HHR hl4
            generalize (gOf l).row k j = R0 at *
            have HN8 : Hid (∀ (x : Int) (W : World) (n : Nat), W.heap.size = n → NumsAt .i64 (W.alloc (.cells #[.int .i64 x] 3)) (some ⟨n, 0, none⟩) [x]) := Lib.hid (fun x W n h => by subst h; exact nums_new (k := .i64) W 3 [x] #[.int .i64 x] rfl (by simp))
            have HN9 := Lib.hid (fun (x : Int) W => nums_new (k := .i64) W 3 [x] #[.int .i64 x] rfl (by simp))
            go_wp2_with (first
              | (at_lookup; refine wpList_mp_look rfl (.tmp 27) (.tmp 28) rfl b nn f (s : Int) (t : Int) rfl rfl HJ.out.mp (lit_wf (by omega) (by omega)) HFD.out ?_)
              | (go_at_call 40; (with_reducible refine HHS.out.mono ?_); rintro e w7 ⟨rfl, rfl⟩)
              | (at_builtin; refine wpList_app_ints rfl (.tmp 43) (.tmp 45) rfl rfl w.heap.size (some ⟨wr.heap.size, 0, none⟩) [(t : Int)] ((R0 (2 * k)).map Int.ofNat) (.slice (P (2 * k)) (R0 (2 * k)).length (C (2 * k))) 1 1 rfl rfl rfl ((HJ.out.next ((Below.refl _ _).alloc (Nat.le_refl _) _)).bj.row (r := 2 * k) (by omega)) (HN9.out _ _) (by have := HJ.out.bj.bm.low.size; simp; omega) (by have := HL0.out; simp; omega) ?_; intro v8 w8 ho8 hg8 hb8; obtain ⟨q8, c8, rfl⟩ := own_form ho8; obtain ⟨m0, m1, m2⟩ := (HJ.out.next ((Below.refl _ _).alloc (Nat.le_refl _) _)).bj.mid (own_blk _ _ _) (r := 2 * k) (o := k * 5 + 3) (by omega) (by omega) hg8; have HX := Lib.hid ((HJ.out.next ((Below.refl _ _).alloc (Nat.le_refl _) _)).app (own_blk _ _ _) (r := 2 * k) (o := k * 5 + 3) (by omega) (by omega) ho8 (by simp) hg8 hb8 (fun ad e => by cases e; have := HHL.out; simp; omega)); simp only [List.length_append, List.length_map, List.length_cons, List.length_nil, Nat.zero_add] at HX; obtain ⟨P1, hP1⟩ : ∃ f, Fl.upd P (2 * k) q8 = f := ⟨_, rfl⟩; obtain ⟨C1, hC1⟩ : ∃ f, Fl.upd C (2 * k) c8 = f := ⟨_, rfl⟩; obtain ⟨R1, hR1⟩ : ∃ f, Fl.upd R0 (2 * k) (R0 (2 * k) ++ [t]) = f := ⟨_, rfl⟩; have HR1 := Lib.hid hR1; have HRo : Hid (R1 (2 * t + 1) = R0 (2 * t + 1)) := Lib.hid (by rw [← hR1]; exact Fl.upd_other _ _ (by omega)); rw [hP1, hC1, hR1] at HX; have p1 := HX.out.bj.at (r := 2 * t + 1) (o := t * 5 + 4) (by omega) (by omega); clear hP1 hC1 hR1 ho8 hg8 hb8)
              | (at_builtin; refine wpList_app_ints rfl (.tmp 55) (.tmp 57) rfl rfl w.heap.size (some ⟨w8.heap.size, 0, none⟩) [(k : Int)] ((R1 (2 * t + 1)).map Int.ofNat) (.slice (P1 (2 * t + 1)) (R1 (2 * t + 1)).length (C1 (2 * t + 1))) 1 1 rfl rfl rfl ((HX.out.next ((Below.refl _ _).alloc (Nat.le_refl _) _)).bj.row (r := 2 * t + 1) (by omega)) (HN8.out _ _ _ (by simp)) (by have := HX.out.bj.bm.low.size; simp at this ⊢; omega) (by have := HL1.out; rw [HRo.out]; simp; omega) ?_; intro v9 w9 ho9 hg9 hb9; obtain ⟨q9, c9, rfl⟩ := own_form ho9; obtain ⟨n0, n1, n2⟩ := (HX.out.next ((Below.refl _ _).alloc (Nat.le_refl _) _)).bj.mid (own_blk _ _ _) (r := 2 * t + 1) (o := t * 5 + 4) (by omega) (by omega) hg9; have HY := Lib.hid ((HX.out.next ((Below.refl _ _).alloc (Nat.le_refl _) _)).app (own_blk _ _ _) (r := 2 * t + 1) (o := t * 5 + 4) (by omega) (by omega) ho9 (by simp) hg9 hb9 (fun ad e => by cases e; obtain ⟨b9, o9, hq9, hb9', _⟩ := HX.out.bj.nu.cells j (by rw [List.length_map]; exact hjs2); cases hq9; simp at hb9' ⊢; omega)); simp only [List.length_append, List.length_map, List.length_cons, List.length_nil, Nat.zero_add] at HY; clear ho9 hg9 hb9 p1 m0 m1 m2))
            go_roundw
            case rel => exact ⟨j + 1, _, _, by omega, rfl, by rw [HE.out, HR1.out, ← HRo.out]; exact HY.out⟩
            case measure => simp [RowKit.intOf]; omega
        · obtain rfl : j = S := by omega
          clear hbj
          go_wp2_with fail
          go_roundw
          case rel => exact ⟨k + 1, P, C, by omega, rfl, by rw [← HNXT.out]; exact HJ.out.o⟩
          case measure => simp [RowKit.intOf]; omega
    · obtain rfl : n = k := by omega
      clear hbm
      go_wp2_with fail
      go_end0
      exact ⟨rfl, P, C, HB.out.bm⟩
end Go.Proofs.Ytlpijnnlmgoihaa
