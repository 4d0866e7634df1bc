/- Dominance: package dom's own walk: visit, which calls itself. -/
import Derived.Test.YtgaacdnljkildaaLE
import Derived.Test.YtgaacdnljkildaaLR
namespace Go.Proofs.Ytgaacdnljkildaa
open Go.RowKit
open Dm

/-- what visit answers -/
def VisP (w : World) (b m : Nat) (dn : List Int) (n0 i : Nat) (T : Ws) (e : Ending) (w' : World) : Prop :=
  e = .returned (.int .i64 (-1)) ∧ ∃ dn' f q c, dn'.length = T.nodes.length ∧ (∀ k, k < n0 → k ≠ i → dn'.getD k 0 = dn.getD k 0) ∧ To w w' b m T dn' f q c
/-- visit's contract, with so much room -/
def VisC (w : World) (b m N : Nat) (cl : Int) (su : Nat → List Int) (bs bt bo bv room : Nat) : Prop :=
  ∀ (S : Ws) (dn : List Int) (i : Nat) (R : Int) (W : World) (f : Int → Option Int) (q : Nat → Option Addr) (c : Nat → Nat), R = (room : Int) → Wf N cl S → i < S.nodes.length → N ≤ S.nodes.length + room → S.left.length < S.nodes.length → dn.length = S.nodes.length → dn.getD i 0 = 0 → To w W b m S dn f q c →
    Calls Try.prog 32 #[.int .i64 (i : Int), .int .i64 R, .pointer (some ⟨bs, 0, none⟩), .pointer (some ⟨bt, 0, none⟩), .pointer (some ⟨bo, 0, none⟩), .pointer (some ⟨bv, 0, none⟩)] W (VisP w b m dn S.nodes.length i (vz N cl su (room + 1) S i))
/-- the loop of visit: j of the row's nodes are gone through -/
structure Vj (w W : World) (b m N : Nat) (cl : Int) (S T : Ws) (dn dn' : List Int) (i j : Nat) (f : Int → Option Int) (q : Nat → Option Addr) (c : Nat → Nat) : Prop where
  to : To w W b m T dn' f q c
  fs : Fs N cl S T
  ln : dn'.length = T.nodes.length
  at' : dn'.getD i 0 = (j : Int)
  ot : ∀ k, k < S.nodes.length → k ≠ i → dn'.getD k 0 = dn.getD k 0
theorem Fs.len {N : Nat} {cl : Int} {S T : Ws} (h : Fs N cl S T) : S.nodes.length ≤ T.nodes.length := by
  obtain ⟨l, e⟩ := h.pn; rw [e]; simp
theorem Fs.old {N : Nat} {cl : Int} {S T : Ws} (h : Fs N cl S T) {k : Nat} (hk : k < S.nodes.length) : T.nodes.getD k 0 = S.nodes.getD k 0 := by
  obtain ⟨l, e⟩ := h.pn; rw [e]; exact getD_app_l _ _ _ hk
/-- the cells that visit reads -/
theorem Vj.cells {w W : World} {b m N : Nat} {cl : Int} {S T : Ws} {dn dn' : List Int} {i j : Nat} {f : Int → Option Int} {q : Nat → Option Addr} {c : Nat → Nat} (h : Vj w W b m N cl S T dn dn' i j f q c) (hi : i < S.nodes.length) :
    ∃ g3 g1, q 3 = some ⟨g3, 0, none⟩ ∧ q 1 = some ⟨g1, 0, none⟩ ∧ W.cell? ⟨b, 3, none⟩ = some (.slice (some ⟨g3, 0, none⟩) T.nodes.length (c 3)) ∧ W.cell? ⟨g3, i, none⟩ = some (.int .i64 (j : Int)) ∧ W.frozen? ⟨g3, i, none⟩ = false ∧ g3 < W.heap.size ∧ g3 ≠ b ∧
      W.cell? ⟨b, 1, none⟩ = some (.slice (some ⟨g1, 0, none⟩) T.nodes.length (c 1)) ∧ W.cell? ⟨g1, i, none⟩ = some (.int .i64 ((S.nodes.getD i 0 : Nat) : Int)) ∧ i < T.nodes.length ∧ b < W.heap.size ∧ W.cell? ⟨b, 4, none⟩ = some (.slice (q 4) T.left.length (c 4)) ∧ W.frozen? ⟨b, 4, none⟩ = false ∧ w.heap.size ≤ g3 := by
  have hl := h.fs.len
  obtain ⟨g3, e3, b3, k1, k2, k3, k4⟩ := h.to.sr.row (j := 3) (by decide) (by show 0 < dn'.length; rw [h.ln]; omega)
  obtain ⟨g1, e1, _, _, _, _, m4⟩ := h.to.sr.row (j := 1) (by decide) (by show 0 < (T.nodes.map Int.ofNat).length; simp; omega)
  have c3 := h.to.sr.clE (j := 3) (by decide) (l := dn') rfl e3 rfl h.ln
  have c1 := h.to.sr.clE (j := 1) (by decide) (l := T.nodes.map Int.ofNat) rfl e1 rfl (List.length_map ..)
  have c4 := h.to.sr.clE (j := 4) (by decide) (l := T.left.map Int.ofNat) rfl rfl rfl (List.length_map ..)
  refine ⟨g3, g1, e3, e1, c3, ?_, k3 i, k1, k2, c1, ?_, by omega, h.to.sr.bl, c4, h.to.sr.fz 4, b3⟩
  · rw [k4 i (by show i < dn'.length; rw [h.ln]; omega)]
    show some (Value.int .i64 (dn'.getD i 0)) = _
    rw [h.at']
  · rw [m4 i (by show i < (T.nodes.map Int.ofNat).length; simp; omega)]
    show some (Value.int .i64 ((T.nodes.map Int.ofNat).getD i 0)) = _
    rw [List.getD_eq_getElem?_getD, List.getElem?_map, List.getElem?_eq_getElem (by omega), ← h.fs.old hi, List.getD_eq_getElem?_getD, List.getElem?_eq_getElem (by omega)]
    rfl
theorem Vj.start {w W : World} {b m N : Nat} {cl : Int} {S : Ws} {dn : List Int} {i : Nat} {f : Int → Option Int} {q : Nat → Option Addr} {c : Nat → Nat} (h : To w W b m S dn f q c) (hw : Wf N cl S) (hl : dn.length = S.nodes.length) (h0 : dn.getD i 0 = 0) : Vj w W b m N cl S S dn dn i 0 f q c :=
  ⟨h, Fs.refl hw, hl, h0, fun _ _ _ => rfl⟩
theorem Vj.next {w W W' : World} {b m N : Nat} {cl : Int} {S T : Ws} {dn dn' : List Int} {i j : Nat} {f : Int → Option Int} {q : Nat → Option Addr} {c : Nat → Nat} (h : Vj w W b m N cl S T dn dn' i j f q c) (hb : Below W.heap.size W W') : Vj w W' b m N cl S T dn dn' i j f q c :=
  ⟨h.to.next hb, h.fs, h.ln, h.at', h.ot⟩
/-- one is passed over -/
theorem Vj.skip {w W : World} {b m N g3 room : Nat} {cl : Int} {su : Nat → List Int} {S T : Ws} {dn dn' : List Int} {i j : Nat} {f : Int → Option Int} {q : Nat → Option Addr} {c : Nat → Nat} {x : Int} (h : Vj w W b m N cl S T dn dn' i j f q c) (hi : i < S.nodes.length) (e : q 3 = some ⟨g3, 0, none⟩) (ho : opn N cl T x = false) :
    Vj w (W.setCell ⟨g3, i, none⟩ (.int .i64 ((j : Int) + 1))) b m N cl S (vzs N cl su room i T x) dn (dn'.set i ((j : Int) + 1)) i (j + 1) f q c := by
  have hl := h.fs.len
  have e2 : vzs N cl su room i T x = T := by unfold vzs; rw [if_neg (by rw [ho]; simp)]
  rw [e2]
  refine ⟨h.to.bump e i _, h.fs, by simp [h.ln], ?_, fun k hk hne => ?_⟩
  · rw [getD_set_i, if_pos ⟨rfl, by rw [h.ln]; omega⟩]; simp
  · rw [getD_set_i, if_neg (fun c => hne c.1)]; exact h.ot k hk hne
/-- one is gone to -/
theorem Vj.go {w W W' : World} {b m N room : Nat} {cl : Int} {su : Nat → List Int} {S T : Ws} {dn dn' dn2 : List Int} {i j : Nat} {f f' : Int → Option Int} {q q' : Nat → Option Addr} {c c' : Nat → Nat} {x : Int} (h : Vj w W b m N cl S T dn dn' i j f q c) (hi : i < S.nodes.length) (ho : opn N cl T x = true) (hr : N ≤ S.nodes.length + room)
    (h2 : To w W' b m (vz N cl su room (T.meet x.toNat i) T.nodes.length) dn2 f' q' c') (hl2 : dn2.length = (vz N cl su room (T.meet x.toNat i) T.nodes.length).nodes.length) (hot : ∀ k, k < T.nodes.length + 1 → k ≠ T.nodes.length → dn2.getD k 0 = (dn'.set i ((j : Int) + 1) ++ [0]).getD k 0) :
    Vj w W' b m N cl S (vzs N cl su room i T x) dn dn2 i (j + 1) f' q' c' := by
  have hl := h.fs.len
  have e2 : vzs N cl su room i T x = vz N cl su room (T.meet x.toNat i) T.nodes.length := by unfold vzs; rw [if_pos ho]
  have hfs : Fs N cl S (vzs N cl su room i T x) := h.fs.step (by omega)
  have hlen : (dn'.set i ((j : Int) + 1)).length = T.nodes.length := by simp [h.ln]
  refine ⟨by rw [e2]; exact h2, hfs, by rw [e2]; exact hl2, ?_, fun k hk hne => ?_⟩
  · rw [hot i (by omega) (by omega), getD_app_l _ _ _ (by omega), getD_set_i, if_pos ⟨rfl, by rw [h.ln]; omega⟩]; simp
  · rw [hot k (by omega) (by omega), getD_app_l _ _ _ (by omega), getD_set_i, if_neg (fun c => hne c.1)]; exact h.ot k hk hne
set_option maxRecDepth 100000 in
set_option maxHeartbeats 4000000 in
theorem svisit_step {w z : World} {b m N : Nat} {q0 : Option Addr} {qc : Nat} {cl : Int} {bs bc bt bo bv : Nat} {g : List (List Int)} (hE : En w b m N q0 qc cl bs bc bt bo bv) (hG : GsAt z q0 g) (hN : g.length = N) (hN2 : N ≤ 4096) (hz : z.heap.size ≤ b ∧ z.heap.size ≤ m) (hzw : Below z.heap.size z w) (room : Nat) (hroom : room ≤ 1000)
    (IH : ∀ r, r + 1 = room → VisC w b m N cl (fun i => g.getD i []) bs bt bo bv r) : VisC w b m N cl (fun i => g.getD i []) bs bt bo bv room := by
  intro S dn i R W f q c hR hS hi hr hlf hdl hd0 h
  have HBZ : Hid (∀ W, Chg w.heap.size (fun k => k = b ∨ k = m) w W → Below z.heap.size z W) := Lib.hid (fun W hW => hzw.trans (hW.below hzw.size (fun k hk => by omega)))
  have huN : S.nodes.getD i 0 < N := by have := hS.lt _ (getD_memN hi); unfold isN at this; omega
  obtain ⟨b4, o4, p4, c4, rfl, hb4, e4, n4⟩ := hG.cells (S.nodes.getD i 0) (by rw [hN]; exact huN)
  have HGC : Hid (∀ W, Below z.heap.size z W → W.cell? ⟨b4, o4 + S.nodes.getD i 0, none⟩ = some (.slice p4 (g.getD (S.nodes.getD i 0) []).length c4) ∧ NumsAt .i64 W p4 (g.getD (S.nodes.getD i 0) [])) := Lib.hid (fun W hW => ⟨(hW.cell (p := ⟨b4, _, none⟩) hb4).trans e4, n4.below hW⟩)
  have hM : (g.getD (S.nodes.getD i 0) []).length ≤ 140737488351232 := by
    obtain ⟨_, _, _, _, _, _, _, hn⟩ := hG.cells (S.nodes.getD i 0) (by rw [hN]; exact huN)
    exact hn.small
  unfold VisP
  rw [vz_succ]
  obtain ⟨su, hsu⟩ : ∃ su : Nat → List Int, (fun i => g.getD i []) = su := ⟨_, rfl⟩
  have hsi : ∀ i, g.getD i [] = su i := fun i => congrFun hsu i
  rw [hsu] at IH ⊢
  simp only [hsi] at HGC hM ⊢
  obtain ⟨row, hrow⟩ : ∃ row, su (S.nodes.getD i 0) = row := ⟨_, rfl⟩
  rw [hrow] at HGC hM ⊢
  obtain ⟨M, hMd⟩ : ∃ M, row.length = M := ⟨_, rfl⟩
  have HM := Lib.hid hMd
  rw [hMd] at HGC hM
  have hMT : M ≤ 140737488351232 := hM
  obtain ⟨F, hFd⟩ : ∃ F : Nat → Ws, ∀ k, F k = (row.take k).foldl (vzs N cl su room i) S := ⟨_, fun _ => rfl⟩
  have HF0 : Hid (F 0 = S) := Lib.hid (by rw [hFd]; rfl)
  have HFS : Hid (∀ k, k < M → F (k + 1) = vzs N cl su room i (F k) (row.getD k 0)) := Lib.hid (fun k hk => by
    have hk' : k < row.length := by rw [hMd]; exact hk
    rw [hFd, hFd, List.take_add_one, List.getElem?_eq_getElem hk', List.foldl_append, List.getD_eq_getElem?_getD, List.getElem?_eq_getElem hk']
    rfl)
  have HFM : Hid (row.foldl (vzs N cl su room i) S = F M) := Lib.hid (by rw [hFd, ← hMd, List.take_length])
  rw [HFM.out]
  have HVJ := Lib.hid (Vj.start h hS hdl hd0)
  have HR := Lib.hid hR
  have HLF := Lib.hid hlf
  clear hR
  have HIH := Lib.hid IH
  have HEN := Lib.hid (fun W (hW : Chg w.heap.size (fun k => k = b ∨ k = m) w W) => hE.at hW)
  have HET := Lib.hid hE
  obtain ⟨u, hu⟩ : ∃ u, S.nodes.getD i 0 = u := ⟨_, rfl⟩
  have HU := Lib.hid hu
  rw [hu] at huN HGC
  obtain ⟨n0, hn0⟩ : ∃ n, S.nodes.length = n := ⟨_, rfl⟩
  have HN0 := Lib.hid hn0
  have hi0 : i < n0 := by omega
  have hn1 : n0 ≤ N := by have := hS.le; omega
  obtain ⟨es, ec, et, eo, ev, _⟩ := hE.at h.ch
  obtain ⟨g3, g1, q3, q1, d3, d3c, d3f, d3l, d3b, d1, d1c, diT, dbl, d4, d4f, d3g⟩ := HVJ.out.cells hi
  rw [hu] at d1c
  rw [hn0] at d1 d3
  obtain ⟨x1, n4'⟩ := HGC.out W (HBZ.out W h.ch)
  clear hFd hsu hsi hrow hMd h hS hdl hd0 hlf IH hE hG hz hzw n4 e4 hb4 hu hn0
  go_enter Try.func32, Try.ntmps32
  go_wp2_with fail
  go_quiet (fail)
  go_wp2_with fail
  clear es ec et eo ev d3 d3c d3f d3l d3b d1 d1c diT dbl d4 d4f d3g x1 n4' q3 q1
  go_loopw [10] (fun _ wr => ∃ (j : Nat) (dn' : List Int) (f : Int → Option Int) (q : Nat → Option Addr) (c : Nat → Nat), j ≤ M ∧ Vj w wr b m N cl S (F j) dn dn' i j f q c) (fun _ wr => M - dnAt wr b i)
  case atStart => exact ⟨0, dn, f, q, c, Nat.zero_le _, by rw [HF0.out]; exact HVJ.out.next (below_drewN (Below.refl _ _) _)⟩
  case round =>
    clear HVJ HF0 HFM
    obtain ⟨j, dn', f, q, c, hj, hv⟩ := hrel
    have HV := Lib.hid hv
    obtain ⟨es, ec, et, eo, ev, _⟩ := HEN.out wr hv.to.ch
    obtain ⟨g3, g1, q3, q1, d3, d3c, d3f, d3l, d3b, d1, d1c, diT, dbl, d4, d4f, d3g⟩ := hv.cells (by rw [HN0.out]; exact hi0)
    obtain ⟨x1, n4'⟩ := HGC.out wr (HBZ.out wr hv.to.ch)
    obtain ⟨_, _, nt, no, nv⟩ := HET.out.lts d3g
    rw [HU.out] at d1c
    have HDN : Hid (dnAt wr b i = j) := Lib.hid (by rw [hv.to.dnAt (by rw [hv.ln]; exact diT), hv.at']; simp)
    have HTN := Lib.hid hv.fs.wf.le
    obtain ⟨T, hTd⟩ : ∃ T, F j = T := ⟨_, rfl⟩
    have HTE := Lib.hid hTd
    rw [hTd] at HV HTN d3 d1 d4 diT
    obtain ⟨n, hn⟩ : ∃ n, T.nodes.length = n := ⟨_, rfl⟩
    have HNN := Lib.hid hn
    rw [hn] at d3 d1 diT
    by_cases hjM : j < M
    · have HS := Lib.hid (HFS.out j hjM)
      obtain ⟨b5, o5, rfl, hl5, e5⟩ := n4'.cells j (by rw [HM.out]; exact hjM)
      have HQ3 := Lib.hid q3
      clear n4' hv hn hTd q1 q3
      generalize row.getD j 0 = y at *
      cases ho : opn N cl T y with
      | false =>
        have HK := Lib.hid (HV.out.skip (su := su) (room := room) (by rw [HN0.out]; exact hi0) HQ3.out ho)
        have HO := Lib.hid (sopen_any HET.out HK.out.to (by omega) y)
        have e : vzs N cl su room i T y = T := by unfold vzs; rw [if_neg (by rw [ho]; simp)]
        rw [e, ho] at HO
        have HX : Hid (dnAt (wr.setCell ⟨g3, i, none⟩ (.int .i64 ((j : Int) + 1))) b i = j + 1) := Lib.hid (by rw [HK.out.to.dnAt (by rw [HK.out.ln, e, HNN.out]; exact diT), HK.out.at']; simp)
        clear ho e HIH
        go_wp2_with (go_at_call 31; (with_reducible refine HO.out.mono ?_); rintro e w1 ⟨rfl, rfl⟩)
        go_roundw
        case rel => exact ⟨j + 1, _, _, _, _, by omega, by rw [HS.out, HTE.out]; exact HK.out⟩
        case measure => rw [HX.out, HDN.out]; omega
      | true =>
        obtain ⟨yn, rfl⟩ : ∃ yn : Nat, y = (yn : Int) := ⟨y.toNat, by have := of_decide_eq_true ho; unfold isN at this; omega⟩
        obtain ⟨hyN, hyn⟩ := of_decide_eq_true ho
        have HM1 := Lib.hid (Wf.meet (i := (i : Int)) HV.out.fs.wf ho)
        have hm1 : n + 1 ≤ N := by have := HM1.out.le; simp [Ws.meet, HNN.out] at this; exact this
        have hln := HV.out.fs.len
        rw [HNN.out] at hln
        obtain ⟨r, hr1⟩ : ∃ r, r + 1 = room := ⟨room - 1, by omega⟩
        have hR1 : (1 : Int) ≤ R := by have := HR.out; omega
        have hR2 : R ≤ 1000 := by have := HR.out; omega
        have HKT := Lib.hid (HV.out.to.bump HQ3.out i ((j : Int) + 1))
        have HO := Lib.hid (sopen_any HET.out HKT.out (by omega) (yn : Int))
        rw [ho] at HO
        have HME := Lib.hid (smeet_any HKT.out yn (i : Int) (by simpa using hyn) (by unfold isN at hyN; omega) HV.out.fs.wf.lf (by simp [HV.out.ln]) (by rw [HNN.out]; omega))
        unfold MeetQ at HME
        rw [HNN.out] at HME
        have HMW : Hid (Wf N cl (T.meet yn (i : Int)) ∧ n < (T.meet yn (i : Int)).nodes.length ∧ N ≤ (T.meet yn (i : Int)).nodes.length + r ∧ (T.meet yn (i : Int)).left.length < (T.meet yn (i : Int)).nodes.length ∧ (dn'.set i ((j : Int) + 1) ++ [0]).length = (T.meet yn (i : Int)).nodes.length ∧ (dn'.set i ((j : Int) + 1) ++ [0]).getD n 0 = 0) := Lib.hid (by
          have e1 : (T.meet yn (i : Int)).nodes.length = n + 1 := by simp [Ws.meet, HNN.out]
          have e2 : (T.meet yn (i : Int)).left = T.left := rfl
          have e3 : (dn'.set i ((j : Int) + 1)).length = n := by simp [HV.out.ln, HNN.out]
          have e4 := HV.out.fs.lf
          rw [HNN.out] at e4
          have e5 := HLF.out
          refine ⟨HM1.out, by omega, by omega, by rw [e2, e1]; omega, by rw [e1]; simp [HV.out.ln, HNN.out], ?_⟩
          rw [← e3]; exact getD_app_e _ _ _)
        have HIH2 : Hid (∀ W2 f2 q2 c2, To w W2 b m (T.meet yn (i : Int)) (dn'.set i ((j : Int) + 1) ++ [0]) f2 q2 c2 → Calls Try.prog 32 #[.int .i64 (n : Int), .int .i64 (R - 1), .pointer (some ⟨bs, 0, none⟩), .pointer (some ⟨bt, 0, none⟩), .pointer (some ⟨bo, 0, none⟩), .pointer (some ⟨bv, 0, none⟩)] W2 (fun e w' => e = .returned (.int .i64 (-1)) ∧ ∃ dn2 f q c, Vj w w' b m N cl S (vzs N cl su room i T (yn : Int)) dn dn2 i (j + 1) f q c)) := Lib.hid (fun W2 f2 q2 c2 h2 => by
          obtain ⟨k1, k2, k3, k4, k5, k6⟩ := HMW.out
          refine (HIH.out r hr1 _ _ n (R - 1) W2 f2 q2 c2 (by have := HR.out; omega) k1 k2 k3 k4 k5 k6 h2).mono ?_
          rintro e w' ⟨he, dn2, f, q, c, l2, o2, t2⟩
          rw [hr1] at l2 t2
          refine ⟨he, dn2, f, q, c, HV.out.go (by rw [HN0.out]; exact hi0) ho hr (by rw [HNN.out]; exact t2) (by rw [HNN.out]; exact l2) (fun k hk hne => ?_)⟩
          rw [HNN.out] at hk hne
          exact o2 k (by simp [Ws.meet, HNN.out]; omega) hne)
        clear ho hyN hyn HIH hln HMW
        go_wp2_with (first
          | (go_at_call 31; (with_reducible refine HO.out.mono ?_); rintro e w1 ⟨rfl, rfl⟩)
          | (go_at_call 33; (with_reducible refine HME.out.mono ?_); rintro e w2 ⟨rfl, f2, q2, c2, hto⟩; have HC := Lib.hid (HIH2.out w2 f2 q2 c2 hto); obtain ⟨_, _, _, _, ev2, _⟩ := HET.out.at hto.ch; clear hto)
          | (go_at_call 32; (with_reducible refine HC.out.mono ?_); rintro e w3 ⟨rfl, dn2, f3, q3, c3, hv3⟩; have HV3 := Lib.hid hv3; clear hv3))
        have HX : Hid (dnAt w3 b i = j + 1) := Lib.hid (by
          have hl3 := HV3.out.fs.len
          rw [HV3.out.to.dnAt (by rw [HV3.out.ln]; rw [HN0.out] at hl3; omega), HV3.out.at']; simp)
        go_roundw
        case rel => exact ⟨j + 1, dn2, f3, q3, c3, by omega, by rw [HS.out, HTE.out]; exact HV3.out⟩
        case measure => rw [HX.out, HDN.out]; omega
    · obtain rfl : M = j := by omega
      have hll : T.left.length ≤ 8192 := by
        have h1 := HV.out.fs.lf
        have h2 := HLF.out
        have h3 := HV.out.fs.wf.le
        omega
      have HLL : Hid ((T.left.map Int.ofNat).length = T.left.length ∧ (T.left.map Int.ofNat ++ [(u : Int)]).length = T.left.length + 1 ∧ (T.left.map Int.ofNat).length + [(u : Int)].length ≤ 1099511627776) := Lib.hid ⟨by simp, by simp, by simp; omega⟩
      have lbt : bt < wr.heap.size := World.block_lt_of_cell? wr ⟨bt, 0, none⟩ et
      have lg1 : g1 < wr.heap.size := World.block_lt_of_cell? wr ⟨g1, i, none⟩ d1c
      have HTM := Lib.hid HV.out.to.tm
      have HQ : Hid (∀ W q' c', Tm w W b m T.nodes.length (up1 (rws T dn') 4 (T.left.map Int.ofNat ++ [(u : Int)])) f q' c' → ∃ dn2 f q c, dn2.length = (T.leave u).nodes.length ∧ (∀ k, k < S.nodes.length → k ≠ i → dn2.getD k 0 = dn.getD k 0) ∧ To w W b m (T.leave u) dn2 f q c) := Lib.hid (fun W q' c' hW => ⟨dn', f, q', c', HV.out.ln, HV.out.ot, hW.leave HV.out.to.nf⟩)
      obtain ⟨ll, hlld⟩ : ∃ l, T.left.length = l := ⟨_, rfl⟩
      have HLD := Lib.hid hlld
      rw [hlld] at HLL hll d4
      have HN9 := Lib.hid (fun (x : Int) (W : World) k (e : k = W.heap.size) => (e ▸ nums_new (k := .i64) W 3 [x] #[.int .i64 x] rfl (by simp) : NumsAt .i64 (W.alloc (.cells #[.int .i64 x] 3)) (some ⟨k, 0, none⟩) [x]).below ((Below.refl _ _).drew))
      clear hv hn n4' hlld HIH
      go_wp2_with fail
      have H1 := Lib.hid (HTM.out.grown (al_drew_grown wr (.cells #[.int .i64 (u : Int)] 3)))
      have F1 : (wr.alloc (.cells #[.int .i64 (u : Int)] 3)).drew.cell? ⟨bt, 0, none⟩ = some (.pointer (some ⟨b, 0, none⟩)) ∧ (wr.alloc (.cells #[.int .i64 (u : Int)] 3)).drew.cell? ⟨b, 1, none⟩ = some (.slice (some ⟨g1, 0, none⟩) n (c 1)) ∧ (wr.alloc (.cells #[.int .i64 (u : Int)] 3)).drew.cell? ⟨g1, i, none⟩ = some (.int .i64 (u : Int)) :=
        ⟨(al_drew_grown wr _).cell et (by simp), (al_drew_grown wr _).cell d1 (by simp), (al_drew_grown wr _).cell d1c (by simp)⟩
      have HQ1 := Lib.hid q1
      have ng1 : g1 ≠ b := HTM.out.sr.ne 1 (by decide) ∘ (fun e => by rw [HQ1.out, e]; rfl)
      refine wp_region_held_drew (S := (fun W => W.cell? ⟨bt, 0, none⟩ = some (.pointer (some ⟨b, 0, none⟩)) ∧ W.cell? ⟨b, 1, none⟩ = some (.slice (some ⟨g1, 0, none⟩) n (c 1)) ∧ W.cell? ⟨g1, i, none⟩ = some (.int .i64 (u : Int)))) (by kernel_rfl) ?_ (fun hHeld => ?_)
      · (try dsimp only); first | exact ⟨et, d1, d1c⟩ | exact F1 | exact F8 | exact F9
      refine held_take 0 (v := ?_) rfl (by kernel_rfl) (by kernel_rfl) (by kernel_rfl) (fun _ _ _ h => h) (Or.inl ⟨by rfl, ?_⟩) (by assumption) ?_
      rotate_left
      · (intro w hSw; (try dsimp only at hSw); go_simp; try with_reducible rfl)
      try simp only [Act.put, List.setIfInBounds_toArray, List.set_cons_zero, List.set_cons_succ]
      refine held_take 1 (v := ?_) rfl (by kernel_rfl) (by kernel_rfl) (by kernel_rfl) (fun _ _ _ h => h) (Or.inl ⟨by rfl, ?_⟩) (by assumption) ?_
      rotate_left
      · (intro w hSw; (try dsimp only at hSw); go_simp; try with_reducible rfl)
      try simp only [Act.put, List.setIfInBounds_toArray, List.set_cons_zero, List.set_cons_succ]
      refine held_take 2 (v := ?_) rfl (by kernel_rfl) (by kernel_rfl) (by kernel_rfl) (fun _ _ _ h => h) (Or.inl ⟨by rfl, ?_⟩) (by assumption) ?_
      rotate_left
      · (intro w hSw; (try dsimp only at hSw); go_simp; try with_reducible rfl)
      try simp only [Act.put, List.setIfInBounds_toArray, List.set_cons_zero, List.set_cons_succ]
      refine held_take 3 (v := ?_) rfl (by kernel_rfl) (by kernel_rfl) (by kernel_rfl) (fun _ _ _ h => h) (Or.inl ⟨by rfl, ?_⟩) (by assumption) ?_
      rotate_left
      · (intro w hSw; (try dsimp only at hSw); go_simp; try with_reducible rfl)
      try simp only [Act.put, List.setIfInBounds_toArray, List.set_cons_zero, List.set_cons_succ]
      refine held_take 5 (v := ?_) rfl (by kernel_rfl) (by kernel_rfl) (by kernel_rfl) (fun _ _ _ h => h) (Or.inl ⟨by rfl, ?_⟩) (by assumption) ?_
      rotate_left
      · (intro w hSw; (try dsimp only at hSw); go_simp; try with_reducible rfl)
      try simp only [Act.put, List.setIfInBounds_toArray, List.set_cons_zero, List.set_cons_succ]
      refine held_take 6 (v := ?_) rfl (by kernel_rfl) (by kernel_rfl) (by kernel_rfl) (fun _ _ _ h => h) (Or.inl ⟨by rfl, ?_⟩) (by assumption) ?_
      rotate_left
      · (intro w hSw; (try dsimp only at hSw); go_simp; try with_reducible rfl)
      try simp only [Act.put, List.setIfInBounds_toArray, List.set_cons_zero, List.set_cons_succ]
      refine held_take 7 (v := ?_) rfl (by kernel_rfl) (by kernel_rfl) (by kernel_rfl) (fun _ _ _ h => h) (Or.inl ⟨by rfl, ?_⟩) (by assumption) ?_
      rotate_left
      · (intro w hSw; (try dsimp only at hSw); go_simp; try with_reducible rfl)
      try simp only [Act.put, List.setIfInBounds_toArray, List.set_cons_zero, List.set_cons_succ]
      refine held_take 8 (v := ?_) rfl (by kernel_rfl) (by kernel_rfl) (by kernel_rfl) (fun _ _ _ h => h) (Or.inl ⟨by rfl, ?_⟩) (by assumption) ?_
      rotate_left
      · (intro w hSw; (try dsimp only at hSw); go_simp; try with_reducible rfl)
      try simp only [Act.put, List.setIfInBounds_toArray, List.set_cons_zero, List.set_cons_succ]
      refine held_take 9 (v := ?_) rfl (by kernel_rfl) (by kernel_rfl) (by kernel_rfl) (fun _ _ _ h => h) (Or.inl ⟨by rfl, ?_⟩) (by assumption) ?_
      rotate_left
      · (intro w hSw; (try dsimp only at hSw); go_simp; try with_reducible rfl)
      try simp only [Act.put, List.setIfInBounds_toArray, List.set_cons_zero, List.set_cons_succ]
      refine held_take 10 (v := ?_) rfl (by kernel_rfl) (by kernel_rfl) (by kernel_rfl) (fun _ _ _ h => h) (Or.inl ⟨by rfl, ?_⟩) (by assumption) ?_
      rotate_left
      · (intro w hSw; (try dsimp only at hSw); go_simp; try with_reducible rfl)
      try simp only [Act.put, List.setIfInBounds_toArray, List.set_cons_zero, List.set_cons_succ]
      refine held_take 11 (v := ?_) rfl (by kernel_rfl) (by kernel_rfl) (by kernel_rfl) (fun _ _ _ h => h) (Or.inl ⟨by rfl, ?_⟩) (by assumption) ?_
      rotate_left
      · (intro w hSw; (try dsimp only at hSw); go_simp; try with_reducible rfl)
      try simp only [Act.put, List.setIfInBounds_toArray, List.set_cons_zero, List.set_cons_succ]
      refine held_two 4 12 (by kernel_rfl) rfl rfl (fun K hK => ?_) (fun K hK => ?_)
      ·
        go_simp
        refine hK.out _ _ ?_ (fun hHeld => ?_)
        · (try dsimp only); first | exact ⟨et, d1, d1c⟩ | exact F1 | exact F8 | exact F9
        clear hK K
        try simp only [Act.put, List.setIfInBounds_toArray, List.set_cons_zero, List.set_cons_succ]
        refine held_one 12 (by kernel_rfl) rfl (fun K hK => ?_)
        go_simp
        refine hK.out _ _ ?_ (fun hHeld => ?_)
        · (try dsimp only); first | exact ⟨et, d1, d1c⟩ | exact F1 | exact F8 | exact F9
        clear hK K
        try simp only [Act.put, List.setIfInBounds_toArray, List.set_cons_zero, List.set_cons_succ]
        refine held_one 13 (by kernel_rfl) rfl (fun K hK => ?_)
        (refine step_app_ints rfl (.tmp 75) (.tmp 83) rfl rfl w.heap.size _ [(u : Int)] (T.left.map Int.ofNat) (.slice (q 4) ll (c 4)) 1 1 rfl (by simp [Act.eval]) (by simp [Act.eval]; rfl) (H1.out.sr.ownE (j := 4) (by decide) rfl rfl rfl HLL.out.1.symm) (HN9.out _ _ _ (by simp)) H1.out.ch.size HLL.out.2.2 ?_; intro v8 w8 ho8 hg8 hb8; rw [HLL.out.2.1] at ho8; obtain ⟨q8, c8, rfl⟩ := own_form ho8; obtain ⟨e8, fz8, bl8⟩ := H1.out.mid0 (j := 4) (by decide) hg8; have d8 := (e8 4).trans (H1.out.sr.clE (j := 4) (by decide) (l := T.left.map Int.ofNat) rfl rfl rfl HLL.out.1); have f8 := fz8 4; have et8 := (HEN.out w8 (H1.out.chg0 (j := 4) (by decide) hg8)).t; have g8 := (H1.out.oth0 (j := 4) (k := 1) (by decide) (by decide) (by decide) HQ1.out hg8 i).trans F1.2.2; have F8 := And.intro et8 (And.intro ((e8 1).trans F1.2.1) g8); have HV8 := Lib.hid (H1.out.app0 (j := 4) (by decide) ho8 HLL.out.2.1 hg8 hb8); have F9 := And.intro ((HEN.out _ HV8.out.ch).t) (And.intro ((World.cell?_setCell_other w8 ⟨b, 4, none⟩ ⟨b, 1, none⟩ (.slice q8 (ll + 1) c8) (by simp)).trans F8.2.1) ((World.cell?_setCell_other w8 ⟨b, 4, none⟩ ⟨g1, i, none⟩ (.slice q8 (ll + 1) c8) (fun e => ng1 (congrArg Addr.block e).symm)).trans F8.2.2)); clear ho8 hg8 hb8 e8 fz8)
        refine hK.out _ _ ?_ (fun hHeld => ?_)
        · (try dsimp only); first | exact ⟨et, d1, d1c⟩ | exact F1 | exact F8 | exact F9
        clear hK K
        try simp only [Act.put, List.setIfInBounds_toArray, List.set_cons_zero, List.set_cons_succ]
        refine held_take 14 (v := ?_) rfl (by kernel_rfl) (by kernel_rfl) (by kernel_rfl) (fun _ _ _ h => h) (Or.inl ⟨by rfl, ?_⟩) (by assumption) ?_
        rotate_left
        · (intro w hSw; (try dsimp only at hSw); go_simp; try with_reducible rfl)
        try simp only [Act.put, List.setIfInBounds_toArray, List.set_cons_zero, List.set_cons_succ]
        refine held_take 15 (v := ?_) rfl (by kernel_rfl) (by kernel_rfl) (by kernel_rfl) (fun _ _ _ h => h) (Or.inl ⟨by rfl, ?_⟩) (by assumption) ?_
        rotate_left
        · (intro w hSw; (try dsimp only at hSw); go_simp; try with_reducible rfl)
        try simp only [Act.put, List.setIfInBounds_toArray, List.set_cons_zero, List.set_cons_succ]
        refine held_one 16 (by kernel_rfl) rfl (fun K hK => ?_)
        go_simp
        refine hK.out _ _ ?_ (fun hHeld => ?_)
        · (try dsimp only); first | exact ⟨et, d1, d1c⟩ | exact F1 | exact F8 | exact F9
        clear hK K
        try simp only [Act.put, List.setIfInBounds_toArray, List.set_cons_zero, List.set_cons_succ]
        refine wpAnyH_done (by kernel_rfl) ?_ _
        go_wp2_with fail
        go_ret
        (rw [HTE.out, HU.out]; exact ⟨rfl, HQ.out _ _ _ HV8.out⟩)
      ·
        go_simp
        refine hK.out _ _ ?_ (fun hHeld => ?_)
        · (try dsimp only); first | exact ⟨et, d1, d1c⟩ | exact F1 | exact F8 | exact F9
        clear hK K
        try simp only [Act.put, List.setIfInBounds_toArray, List.set_cons_zero, List.set_cons_succ]
        refine held_one 4 (by kernel_rfl) rfl (fun K hK => ?_)
        go_simp
        refine hK.out _ _ ?_ (fun hHeld => ?_)
        · (try dsimp only); first | exact ⟨et, d1, d1c⟩ | exact F1 | exact F8 | exact F9
        clear hK K
        try simp only [Act.put, List.setIfInBounds_toArray, List.set_cons_zero, List.set_cons_succ]
        refine held_one 13 (by kernel_rfl) rfl (fun K hK => ?_)
        (refine step_app_ints rfl (.tmp 75) (.tmp 83) rfl rfl w.heap.size _ [(u : Int)] (T.left.map Int.ofNat) (.slice (q 4) ll (c 4)) 1 1 rfl (by simp [Act.eval]) (by simp [Act.eval]; rfl) (H1.out.sr.ownE (j := 4) (by decide) rfl rfl rfl HLL.out.1.symm) (HN9.out _ _ _ (by simp)) H1.out.ch.size HLL.out.2.2 ?_; intro v8 w8 ho8 hg8 hb8; rw [HLL.out.2.1] at ho8; obtain ⟨q8, c8, rfl⟩ := own_form ho8; obtain ⟨e8, fz8, bl8⟩ := H1.out.mid0 (j := 4) (by decide) hg8; have d8 := (e8 4).trans (H1.out.sr.clE (j := 4) (by decide) (l := T.left.map Int.ofNat) rfl rfl rfl HLL.out.1); have f8 := fz8 4; have et8 := (HEN.out w8 (H1.out.chg0 (j := 4) (by decide) hg8)).t; have g8 := (H1.out.oth0 (j := 4) (k := 1) (by decide) (by decide) (by decide) HQ1.out hg8 i).trans F1.2.2; have F8 := And.intro et8 (And.intro ((e8 1).trans F1.2.1) g8); have HV8 := Lib.hid (H1.out.app0 (j := 4) (by decide) ho8 HLL.out.2.1 hg8 hb8); have F9 := And.intro ((HEN.out _ HV8.out.ch).t) (And.intro ((World.cell?_setCell_other w8 ⟨b, 4, none⟩ ⟨b, 1, none⟩ (.slice q8 (ll + 1) c8) (by simp)).trans F8.2.1) ((World.cell?_setCell_other w8 ⟨b, 4, none⟩ ⟨g1, i, none⟩ (.slice q8 (ll + 1) c8) (fun e => ng1 (congrArg Addr.block e).symm)).trans F8.2.2)); clear ho8 hg8 hb8 e8 fz8)
        refine hK.out _ _ ?_ (fun hHeld => ?_)
        · (try dsimp only); first | exact ⟨et, d1, d1c⟩ | exact F1 | exact F8 | exact F9
        clear hK K
        try simp only [Act.put, List.setIfInBounds_toArray, List.set_cons_zero, List.set_cons_succ]
        refine held_take 14 (v := ?_) rfl (by kernel_rfl) (by kernel_rfl) (by kernel_rfl) (fun _ _ _ h => h) (Or.inl ⟨by rfl, ?_⟩) (by assumption) ?_
        rotate_left
        · (intro w hSw; (try dsimp only at hSw); go_simp; try with_reducible rfl)
        try simp only [Act.put, List.setIfInBounds_toArray, List.set_cons_zero, List.set_cons_succ]
        refine held_take 15 (v := ?_) rfl (by kernel_rfl) (by kernel_rfl) (by kernel_rfl) (fun _ _ _ h => h) (Or.inl ⟨by rfl, ?_⟩) (by assumption) ?_
        rotate_left
        · (intro w hSw; (try dsimp only at hSw); go_simp; try with_reducible rfl)
        try simp only [Act.put, List.setIfInBounds_toArray, List.set_cons_zero, List.set_cons_succ]
        refine held_one 16 (by kernel_rfl) rfl (fun K hK => ?_)
        go_simp
        refine hK.out _ _ ?_ (fun hHeld => ?_)
        · (try dsimp only); first | exact ⟨et, d1, d1c⟩ | exact F1 | exact F8 | exact F9
        clear hK K
        try simp only [Act.put, List.setIfInBounds_toArray, List.set_cons_zero, List.set_cons_succ]
        refine wpAnyH_done (by kernel_rfl) ?_ _
        go_wp2_with fail
        go_ret
        (rw [HTE.out, HU.out]; exact ⟨rfl, HQ.out _ _ _ HV8.out⟩)
theorem svisit_any {w z : World} {b m N : Nat} {q0 : Option Addr} {qc : Nat} {cl : Int} {bs bc bt bo bv : Nat} {g : List (List Int)} (hE : En w b m N q0 qc cl bs bc bt bo bv) (hG : GsAt z q0 g) (hN : g.length = N) (hN2 : N ≤ 4096) (hz : z.heap.size ≤ b ∧ z.heap.size ≤ m) (hzw : Below z.heap.size z w) : ∀ room, room ≤ 1000 → VisC w b m N cl (fun i => g.getD i []) bs bt bo bv room
  | 0, h => svisit_step hE hG hN hN2 hz hzw 0 h (fun r e => by omega)
  | room + 1, h => svisit_step hE hG hN hN2 hz hzw (room + 1) h (fun r e => by
      obtain rfl : r = room := by omega
      exact svisit_any hE hG hN hN2 hz hzw r (by omega))
end Go.Proofs.Ytgaacdnljkildaa
