/- Dominance: package dom's own walk. -/
import Derived.Test.YtgaacdnljkildaaLF
import Derived.Laws.EntriesVeiled
namespace Go.Proofs.Ytgaacdnljkildaa
open Go.RowKit
open Dm

/-- a tour that lies in memory, from block B on, as it is read -/
structure Tt (B : Nat) (W : World) (b : Nat) (S : Ws) : Prop where
  bl : b < W.heap.size
  bB : B ≤ b
  mp : ∃ m n f, W.cell? ⟨b, 0, none⟩ = some (.map (some m)) ∧ Mp W m n f ∧ NumF f S.nodes ∧ B ≤ m
  r1 : ∃ q c, W.cell? ⟨b, 1, none⟩ = some (.slice q S.nodes.length c) ∧ NumsAt .i64 W q (S.nodes.map Int.ofNat) ∧ ∀ ad, q = some ad → B ≤ ad.block
  r2 : ∃ q c, W.cell? ⟨b, 2, none⟩ = some (.slice q S.frm.length c) ∧ NumsAt .i64 W q S.frm ∧ ∀ ad, q = some ad → B ≤ ad.block
theorem NumsAt.grownB {W W' : World} {k : IntKind} {q : Option Addr} {l : List Int} {row : Option Nat} {B : Nat} (h : NumsAt k W q l) (hq : ∀ ad, q = some ad → B ≤ ad.block) (hg : W.grownBy W' row) (hr : ∀ k, row = some k → k < B) : NumsAt k W' q l :=
  ⟨h.small, fun i hi => by
    obtain ⟨b, off, e, hl, hc⟩ := h.cells i hi
    refine ⟨b, off, e, Nat.lt_of_lt_of_le hl hg.size, (World.cell?_of_block (a := ⟨b, off + i, none⟩) (hg.block b hl (fun e2 => ?_))).trans hc⟩
    have := hq _ e
    have := hr b e2.symm
    have : B ≤ b := hq _ e
    omega⟩
theorem Tt.grown {B : Nat} {W W' : World} {b : Nat} {S : Ws} {row : Option Nat} (h : Tt B W b S) (hg : W.grownBy W' row) (hr : ∀ k, row = some k → k < B) : Tt B W' b S := by
  obtain ⟨bl, bB, ⟨m, n, f, c0, hm, hf, mB⟩, ⟨q1, c1, e1, n1, k1⟩, ⟨q2, c2, e2, n2, k2⟩⟩ := h
  have hb : row ≠ some b := fun e => by have := hr b e; omega
  exact ⟨Nat.lt_of_lt_of_le bl hg.size, bB, ⟨m, n, f, hg.cell c0 (fun e => hb e.symm), hm.grown hg (fun e => by have := hr m e; omega), hf, mB⟩, ⟨q1, c1, hg.cell e1 (fun e => hb e.symm), n1.grownB k1 hg hr, k1⟩, ⟨q2, c2, hg.cell e2 (fun e => hb e.symm), n2.grownB k2 hg hr, k2⟩⟩
theorem Tt.next {B : Nat} {W W' : World} {b : Nat} {S : Ws} (h : Tt B W b S) (hb : Below W.heap.size W W') : Tt B W' b S := h.grown (below_grown hb) (fun k e => by cases e)
theorem To.tt {w W : World} {b m B : Nat} {S : Ws} {dn : List Int} {f : Int → Option Int} {q : Nat → Option Addr} {c : Nat → Nat} (h : To w W b m S dn f q c) (hl : S.nodes.length ≤ 1048576) (hf : S.frm.length = S.nodes.length) (hB : B ≤ b ∧ B ≤ m ∧ B ≤ w.heap.size) : Tt B W b S := by
  have hr : ∀ j ∈ TJ, ∀ ad, q j = some ad → B ≤ ad.block := fun j hj ad e => by
    have := (h.sr.blk hj (k := ad.block) (by rw [e]; rfl)).1
    omega
  exact ⟨h.sr.bl, hB.1, ⟨m, _, f, h.c0, h.mp, h.nf, hB.2.1⟩, ⟨q 1, c 1, h.sr.clE (j := 1) (by decide) (l := S.nodes.map Int.ofNat) rfl rfl rfl (List.length_map ..), h.sr.nums (j := 1) (by decide) (by show (S.nodes.map Int.ofNat).length ≤ _; simp; omega), hr 1 (by decide)⟩,
    ⟨q 2, c 2, h.sr.clE (j := 2) (by decide) (l := S.frm) rfl rfl rfl rfl, h.sr.nums (j := 2) (by decide) (by show S.frm.length ≤ _; omega), hr 2 (by decide)⟩⟩
/-- what a walk met -/
def wkS (g : List (List Int)) (cl : Int) : Ws := if isN g.length cl 0 then vz g.length cl (fun i => g.getD i []) 1001 ws0 0 else { nodes := [], frm := [], left := [] }
/-- what walk answers: beside the tour its row of left nodes -/
def WkP (w : World) (S : Ws) (e : Ending) (w' : World) : Prop :=
  ∃ b ql cl, e = .returned (.pointer (some ⟨b, 0, none⟩)) ∧ w.heap.size ≤ b ∧ Tt w.heap.size w' b S ∧ w'.cell? ⟨b, 4, none⟩ = some (.slice ql S.left.length cl) ∧ w'.ownsRow w.heap.size 3 1 (.slice ql S.left.length cl) S.left.length (intsV (S.left.map Int.ofNat)) ∧ Below w.heap.size w w'
theorem own_low {w : World} {base base' : Nat} {e : TypeId} {size n : Nat} {v : Value} {xs : List Value} (h : w.ownsRow base e size v n xs) (hb : base' ≤ base) : w.ownsRow base' e size v n xs := by
  obtain ⟨h1, h2 | ⟨g, cap, cur, e1, e2, e3⟩⟩ := h
  · exact ⟨h1, .inl h2⟩
  · exact ⟨h1, .inr ⟨g, cap, cur, e1, by omega, e3⟩⟩
/-- the world in which a walk begins -/
def preW (w : World) (q0 : Option Addr) (N qc : Nat) (cl : Int) : World :=
  (((((((w.alloc (.cells #[.slice q0 N qc] 22)).alloc (.cells #[.int .i64 cl] 3)).alloc (.map #[] 0)).alloc (.cells #[.map (some (w.heap.size + 1 + 1)), .slice none 0 0, .slice none 0 0, .slice none 0 0, .slice none 0 0] 34)).alloc (.cells #[.pointer (some ⟨w.heap.size + 1 + 1 + 1, 0, none⟩)] 35)).alloc
    (.cells #[.func (.func 31) #[] #[.pointer (some ⟨w.heap.size, 0, none⟩), .pointer (some ⟨w.heap.size + 1, 0, none⟩), .pointer (some ⟨w.heap.size + 1 + 1 + 1 + 1, 0, none⟩)]] 37)).alloc
    (.cells #[.func (.func 32) #[] #[.pointer (some ⟨w.heap.size, 0, none⟩), .pointer (some ⟨w.heap.size + 1 + 1 + 1 + 1, 0, none⟩), .pointer (some ⟨w.heap.size + 1 + 1 + 1 + 1 + 1, 0, none⟩), .pointer (some ⟨w.heap.size + 1 + 1 + 1 + 1 + 1 + 1, 0, none⟩)]] 50))
def Ws0 : Ws := { nodes := [], frm := [], left := [] }
theorem rws0 (j : Nat) : rws Ws0 [] j = [] := by simp [rws, Ws0]
theorem cell_al {w : World} {o : Obj} {a : Addr} {v : Value} (h : w.cell? a = some v) : (w.alloc o).cell? a = some v := (b1.cell (World.block_lt_of_cell? w a h)).trans h
theorem cell_new' (w : World) {n : Nat} (hn : w.heap.size = n) {cs : Array Value} {t : TypeId} {i : Nat} {v : Value} (h : cs[i]? = some v) : (w.alloc (.cells cs t)).cell? ⟨n, i, none⟩ = some v := by
  subst hn; exact cell_new w h
theorem pre_ok (w : World) (q0 : Option Addr) (N qc : Nat) (cl : Int) :
    En (preW w q0 N qc cl) (w.heap.size + 1 + 1 + 1) (w.heap.size + 1 + 1) N q0 qc cl w.heap.size (w.heap.size + 1) (w.heap.size + 1 + 1 + 1 + 1) (w.heap.size + 1 + 1 + 1 + 1 + 1) (w.heap.size + 1 + 1 + 1 + 1 + 1 + 1) ∧
    To (preW w q0 N qc cl) (preW w q0 N qc cl) (w.heap.size + 1 + 1 + 1) (w.heap.size + 1 + 1) Ws0 [] (fun _ => none) (fun _ => none) (fun _ => 0) ∧ Below w.heap.size w (preW w q0 N qc cl) := by
  unfold preW
  generalize ho1 : (Obj.cells #[.slice q0 N qc] 22) = o1
  generalize ho2 : (Obj.cells #[.int .i64 cl] 3) = o2
  generalize ho4 : (Obj.cells #[.map (some (w.heap.size + 1 + 1)), .slice none 0 0, .slice none 0 0, .slice none 0 0, .slice none 0 0] 34) = o4
  generalize ho5 : (Obj.cells #[.pointer (some ⟨w.heap.size + 1 + 1 + 1, 0, none⟩)] 35) = o5
  generalize ho6 : (Obj.cells #[.func (.func 31) #[] #[.pointer (some ⟨w.heap.size, 0, none⟩), .pointer (some ⟨w.heap.size + 1, 0, none⟩), .pointer (some ⟨w.heap.size + 1 + 1 + 1 + 1, 0, none⟩)]] 37) = o6
  generalize ho7 : (Obj.cells #[.func (.func 32) #[] #[.pointer (some ⟨w.heap.size, 0, none⟩), .pointer (some ⟨w.heap.size + 1 + 1 + 1 + 1, 0, none⟩), .pointer (some ⟨w.heap.size + 1 + 1 + 1 + 1 + 1, 0, none⟩), .pointer (some ⟨w.heap.size + 1 + 1 + 1 + 1 + 1 + 1, 0, none⟩)]] 50) = o7
  have z1 : (w.alloc o1).heap.size = w.heap.size + 1 := World.size_alloc ..
  have z2 : ((w.alloc o1).alloc o2).heap.size = w.heap.size + 1 + 1 := by rw [World.size_alloc, z1]
  have z3 : (((w.alloc o1).alloc o2).alloc (.map #[] 0)).heap.size = w.heap.size + 1 + 1 + 1 := by rw [World.size_alloc, z2]
  have z4 : ((((w.alloc o1).alloc o2).alloc (.map #[] 0)).alloc o4).heap.size = w.heap.size + 1 + 1 + 1 + 1 := by rw [World.size_alloc, z3]
  have z5 : (((((w.alloc o1).alloc o2).alloc (.map #[] 0)).alloc o4).alloc o5).heap.size = w.heap.size + 1 + 1 + 1 + 1 + 1 := by rw [World.size_alloc, z4]
  have z6 : ((((((w.alloc o1).alloc o2).alloc (.map #[] 0)).alloc o4).alloc o5).alloc o6).heap.size = w.heap.size + 1 + 1 + 1 + 1 + 1 + 1 := by rw [World.size_alloc, z5]
  have z7 : (((((((w.alloc o1).alloc o2).alloc (.map #[] 0)).alloc o4).alloc o5).alloc o6).alloc o7).heap.size = w.heap.size + 1 + 1 + 1 + 1 + 1 + 1 + 1 := by rw [World.size_alloc, z6]
  have f1 : (w.alloc o1).cell? ⟨w.heap.size, 0, none⟩ = some (.slice q0 N qc) := by rw [← ho1]; exact cell_new w rfl
  have f2 : ((w.alloc o1).alloc o2).cell? ⟨w.heap.size + 1, 0, none⟩ = some (.int .i64 cl) := by rw [← ho2]; exact cell_new' _ z1 rfl
  have f3 := Mp.made ((w.alloc o1).alloc o2)
  rw [z2] at f3
  have f4 : ∀ i u, (#[.map (some (w.heap.size + 1 + 1)), .slice none 0 0, .slice none 0 0, .slice none 0 0, .slice none 0 0] : Array Value)[i]? = some u → ((((w.alloc o1).alloc o2).alloc (.map #[] 0)).alloc o4).cell? ⟨w.heap.size + 1 + 1 + 1, i, none⟩ = some u := fun i u hu => by rw [← ho4]; exact cell_new' _ z3 hu
  have g4 : ∀ j, ((((w.alloc o1).alloc o2).alloc (.map #[] 0)).alloc o4).frozen? ⟨w.heap.size + 1 + 1 + 1, j, none⟩ = false := fun j => by
    rw [← ho4, ← z3]; exact World.frozen?_alloc_new _ _ _ j
  have f5 : (((((w.alloc o1).alloc o2).alloc (.map #[] 0)).alloc o4).alloc o5).cell? ⟨w.heap.size + 1 + 1 + 1 + 1, 0, none⟩ = some (.pointer (some ⟨w.heap.size + 1 + 1 + 1, 0, none⟩)) := by rw [← ho5]; exact cell_new' _ z4 rfl
  have f6 : ((((((w.alloc o1).alloc o2).alloc (.map #[] 0)).alloc o4).alloc o5).alloc o6).cell? ⟨w.heap.size + 1 + 1 + 1 + 1 + 1, 0, none⟩ = some (.func (.func 31) #[] #[.pointer (some ⟨w.heap.size, 0, none⟩), .pointer (some ⟨w.heap.size + 1, 0, none⟩), .pointer (some ⟨w.heap.size + 1 + 1 + 1 + 1, 0, none⟩)]) := by rw [← ho6]; exact cell_new' _ z5 rfl
  have f7 : (((((((w.alloc o1).alloc o2).alloc (.map #[] 0)).alloc o4).alloc o5).alloc o6).alloc o7).cell? ⟨w.heap.size + 1 + 1 + 1 + 1 + 1 + 1, 0, none⟩ = some (.func (.func 32) #[] #[.pointer (some ⟨w.heap.size, 0, none⟩), .pointer (some ⟨w.heap.size + 1 + 1 + 1 + 1, 0, none⟩), .pointer (some ⟨w.heap.size + 1 + 1 + 1 + 1 + 1, 0, none⟩), .pointer (some ⟨w.heap.size + 1 + 1 + 1 + 1 + 1 + 1, 0, none⟩)]) := by rw [← ho7]; exact cell_new' _ z6 rfl
  clear ho1 ho2 ho4 ho5 ho6 ho7
  have b67 : Below ((((w.alloc o1).alloc o2).alloc (.map #[] 0)).alloc o4).heap.size ((((w.alloc o1).alloc o2).alloc (.map #[] 0)).alloc o4) (((((((w.alloc o1).alloc o2).alloc (.map #[] 0)).alloc o4).alloc o5).alloc o6).alloc o7) := ((b1).alloc (by rw [z4, z5]; omega) _).alloc (by rw [z4, z6]; omega) _
  refine ⟨⟨cell_al (cell_al (cell_al (cell_al (cell_al (cell_al f1))))), cell_al (cell_al (cell_al (cell_al (cell_al f2)))), cell_al (cell_al f5), cell_al f6, f7, by omega, by omega, by omega, by omega, by omega⟩,
    ⟨Chg.refl _ _ _, ⟨by rw [z7]; omega, fun j => (b67.frozen (p := ⟨w.heap.size + 1 + 1 + 1, j, none⟩) (by show w.heap.size + 1 + 1 + 1 < _; rw [z4]; omega)).trans (g4 j), fun j hj => ?_, fun j hj => ?_, fun j _ => by simp, fun j _ k _ _ => .inl rfl⟩, cell_al (cell_al (cell_al (f4 0 _ rfl))), (((f3.next b1).next b1).next b1).next b1, NumF.nil, by rw [z7]; omega, by rw [z7]; omega, by omega⟩,
    ((((((b1).alloc (by rw [z1]; omega) _).alloc (by rw [z2]; omega) _).alloc (by rw [z3]; omega) _).alloc (by rw [z4]; omega) _).alloc (by rw [z5]; omega) _).alloc (by rw [z6]; omega) _⟩
  · have e : (rws Ws0 [] j).length = 0 := by rw [rws0]; rfl
    rw [e]
    refine cell_al (cell_al (cell_al (f4 j _ ?_)))
    rcases hj with _ | ⟨_, _ | ⟨_, _ | ⟨_, _ | ⟨_, h⟩⟩⟩⟩
    · rfl
    · rfl
    · rfl
    · rfl
    · cases h
  · rw [rws0]
    exact World.ownsRow_nil _ _ _ _
set_option maxRecDepth 100000 in
set_option maxHeartbeats 4000000 in
theorem swalk_all (q0 : Option Addr) (qc : Nat) (g : List (List Int)) (cl : Int) (w : World) (h : GsAt w q0 g) (hN : g.length ≤ 1000) : Calls Try.prog 21 #[.slice q0 g.length qc, .int .i64 cl] w (WkP w (wkS g cl)) := by
  have hmm := @run_makeMap Try.prog
  have HH := Lib.hid h
  obtain ⟨N, hNl⟩ : ∃ N, g.length = N := ⟨_, rfl⟩
  have HNL := Lib.hid hNl
  obtain ⟨hE, hT0, hB0⟩ := pre_ok w q0 N qc cl
  have HE := Lib.hid hE
  have HT0 := Lib.hid hT0
  have HB0 := Lib.hid hB0
  obtain ⟨W0, hW0⟩ : ∃ W, preW w q0 N qc cl = W := ⟨_, rfl⟩
  have HW0 := Lib.hid hW0
  have HO := Lib.hid (sopen_any hE hT0 (by omega) 0)
  have HME := Lib.hid (smeet_any hT0 0 (-1) (by simp [Ws0]) (by omega) rfl rfl (by simp [Ws0]))
  have HVI := Lib.hid (svisit_any (z := w) hE h hNl (by omega) ⟨by omega, by omega⟩ hB0 1000 (Nat.le_refl _))
  unfold MeetQ at HME
  have hS0 : Ws0.meet 0 (-1) = ws0 := rfl
  rw [hS0, show ((Ws0.nodes.length : Nat) : Int) = 0 from rfl, show ((0 : Nat) : Int) = 0 from rfl] at HME
  have hwk : wkS g cl = if isN N cl 0 then vz N cl (fun i => g.getD i []) 1001 ws0 0 else Ws0 := by unfold wkS; rw [hNl]; rfl
  have HFin : Hid (∀ (W : World) (S : Ws) (dn : List Int) (f : Int → Option Int) (q : Nat → Option Addr) (c : Nat → Nat), wkS g cl = S → S.nodes.length ≤ N → S.frm.length = S.nodes.length → To (preW w q0 N qc cl) W (w.heap.size + 1 + 1 + 1) (w.heap.size + 1 + 1) S dn f q c → WkP w (wkS g cl) (.returned (.pointer (some ⟨w.heap.size + 1 + 1 + 1, 0, none⟩))) W) := Lib.hid (fun W S dn f q c e h1 h2 h3 => by
    rw [e]
    have hs := HB0.out.size
    have h4 := h3.sr.clE (j := 4) (by decide) (l := S.left.map Int.ofNat) rfl rfl rfl (List.length_map ..)
    have h5 := h3.sr.ownE (j := 4) (by decide) (l := S.left.map Int.ofNat) rfl rfl rfl (List.length_map ..).symm
    rw [List.length_map] at h5
    exact ⟨_, _, _, rfl, by omega, h3.tt (by omega) h2 ⟨by omega, by omega, hs⟩, h4, own_low h5 hs, HB0.out.trans (h3.ch.below hs (fun k hk => by omega))⟩)
  clear h hE hT0 hB0
  generalize WkP w (wkS g cl) = Q at *
  rw [hNl] at hN ⊢
  by_cases h0 : isN N cl 0
  · have HO1 : opn N cl Ws0 0 = true := by unfold opn; exact decide_eq_true ⟨h0, by simp [Ws0]⟩
    rw [HO1] at HO
    rw [if_pos h0] at hwk
    have HWK := Lib.hid hwk
    have HIS := Lib.hid h0
    unfold preW at HO HME
    have HVS : Hid (∃ S, vz N cl (fun i => g.getD i []) 1001 ws0 0 = S ∧ S.nodes.length ≤ N ∧ S.frm.length = S.nodes.length ∧ 0 < S.frm.length ∧ S.frm.getD 0 0 = -1) := Lib.hid (by
      obtain ⟨hi, k, _⟩ := vz_ok N cl (fun i => g.getD i []) 1001 ws0 0 (ws0_wf h0) (by simp [ws0]) (by simp [ws0]; omega)
      have h1 := k.len
      have h2 : ws0.nodes.length = 1 := rfl
      exact ⟨_, rfl, k.wf.le, k.lf, by rw [k.lf]; omega, by rw [k.oldF (by simp [ws0])]; rfl⟩)
    obtain ⟨S, hS, hS1, hS2, hS3, hS4⟩ := HVS.out
    have HVC : Hid (∀ W2 f2 q2 c2, To (preW w q0 N qc cl) W2 (w.heap.size + 1 + 1 + 1) (w.heap.size + 1 + 1) ws0 ([] ++ [0]) f2 q2 c2 → Calls Try.prog 32 #[.int .i64 0, .int .i64 1000, .pointer (some ⟨w.heap.size, 0, none⟩), .pointer (some ⟨w.heap.size + 1 + 1 + 1 + 1, 0, none⟩), .pointer (some ⟨w.heap.size + 1 + 1 + 1 + 1 + 1, 0, none⟩), .pointer (some ⟨w.heap.size + 1 + 1 + 1 + 1 + 1 + 1, 0, none⟩)] W2 (fun e w' => e = .returned (.int .i64 (-1)) ∧ ∃ dn f q c, To (preW w q0 N qc cl) w' (w.heap.size + 1 + 1 + 1) (w.heap.size + 1 + 1) S dn f q c)) := Lib.hid (fun W2 f2 q2 c2 h2 => by
      refine Calls.mono (HVI.out ws0 ([] ++ [0]) 0 1000 W2 f2 q2 c2 rfl (ws0_wf HIS.out) (by simp [ws0]) (by simp [ws0]; omega) (by simp [ws0]) rfl rfl h2) ?_
      rintro e w' ⟨he, dn, f, q, c, _, _, ht⟩
      rw [hS] at ht
      exact ⟨he, dn, f, q, c, ht⟩)
    have HS := Lib.hid hS
    have HS1 := Lib.hid hS1
    have HS2 := Lib.hid hS2
    have HS3 := Lib.hid hS3
    have HS4 := Lib.hid hS4
    clear hwk HO1 h0 hW0 hNl HVI hS hS1 hS2 hS3 hS4 HVS
    have ft0 := HE.out.t
    unfold preW at ft0
    go_enter Try.func21, Try.ntmps21
    go_wp2_with (first
      | (go_at_call 31; (with_reducible refine HO.out.mono ?_); rintro e w1 ⟨rfl, rfl⟩)
      | (go_at_call 33; (with_reducible refine HME.out.mono ?_); rintro e w2 ⟨rfl, f2, q2, c2, hto⟩; have HTO := Lib.hid hto; clear hto))
    have HT2 := Lib.hid (HVC.out w2 f2 q2 c2 HTO.out)
    go_loopw [8] (fun v wr => (v = .int .i64 0 ∧ wr = w2) ∨ (v = .int .i64 (-1) ∧ ∃ dn f q c, To (preW w q0 N qc cl) wr (w.heap.size + 1 + 1 + 1) (w.heap.size + 1 + 1) S dn f q c)) (fun v _ => (RowKit.intOf v + 1).toNat)
    case atStart => exact .inl ⟨rfl, rfl⟩
    case round =>
      clear ft0
      rcases hrel with ⟨rfl, rfl⟩ | ⟨rfl, dn, f, q, c, hto⟩
      · have fv := (HE.out.at HTO.out.ch).v
        go_wp2_with (go_at_call 32; (with_reducible refine HT2.out.mono ?_); rintro e w3 ⟨rfl, dn3, f3, q3, c3, hto⟩; obtain ⟨g2, e2, _, _, _, _, k2⟩ := hto.sr.row (j := 2) (by decide) HS3.out; have d2 := hto.sr.clE (j := 2) (by decide) (l := S.frm) rfl e2 rfl rfl; have d2c := (k2 0 HS3.out).trans (congrArg (fun x => some (Value.int .i64 x)) HS4.out); have ft := (HE.out.at hto.ch).t; have hS3 := HS3.out; have HTO3 := Lib.hid hto; clear k2 hto)
        go_roundw
        case rel => exact .inr ⟨rfl, dn3, f3, q3, c3, HTO3.out⟩
        case measure => simp [RowKit.intOf]
      · have ft := (HE.out.at hto.ch).t
        have HTO3 := Lib.hid hto
        clear hto
        go_wp2_with fail
        exact HFin.out _ S _ _ _ _ (HWK.out.trans HS.out) HS1.out HS2.out HTO3.out
  · have HO1 : opn N cl Ws0 0 = false := by unfold opn; exact decide_eq_false (fun c => h0 c.1)
    rw [HO1] at HO
    rw [if_neg h0] at hwk
    have HWK := Lib.hid hwk
    unfold preW at HO
    have ft := HE.out.t
    unfold preW at ft
    clear hwk HO1 h0 hW0 hNl
    go_enter Try.func21, Try.ntmps21
    go_wp2_with (go_at_call 31; (with_reducible refine HO.out.mono ?_); rintro e w1 ⟨rfl, rfl⟩)
    exact HFin.out _ Ws0 [] _ _ _ HWK.out (by simp [Ws0]) rfl HT0.out
theorem swalk_any (q0 : Option Addr) (qc : Nat) (g : List (List Int)) (cl : Int) (w : World) (h : GsAt w q0 g) (hN : g.length ≤ 1000) (_ : tot g ≤ 1048576) : Calls Try.prog 21 #[.slice q0 g.length qc, .int .i64 cl] w (WkP w (wkS g cl)) := swalk_all q0 qc g cl w h hN
end Go.Proofs.Ytgaacdnljkildaa
