/- Flow: package flow's own walk and Reach. -/
import Derived.Test.YtlpijnnlmgoihaaFS
import Derived.Test.YtlpijnnlmgoihaaHB
namespace Go.Proofs.Ytlpijnnlmgoihaa
open Go.RowKit M

/-- places that are met, and those to go on from -/
structure Wo (l : List In) (met : List Bool) (T : List Nat) : Prop where
  len : met.length = l.length
  in1 : ∀ k, met.getD k false = true → (gOf l).R k
  in2 : ∀ k ∈ T, met.getD k false = true
  zero : met.getD 0 false = true
  on : ∀ k, met.getD k false = true → k ∈ T ∨ ∀ s ∈ (gOf l).su k, met.getD s false = true
/-- of i the first j ways are looked at -/
structure Wi (l : List In) (met : List Bool) (T : List Nat) (i j : Nat) : Prop where
  len : met.length = l.length
  in1 : ∀ k, met.getD k false = true → (gOf l).R k
  in2 : ∀ k ∈ T, met.getD k false = true
  zero : met.getD 0 false = true
  cur : met.getD i false = true
  on : ∀ k, met.getD k false = true → k ∈ T ∨ k = i ∨ ∀ s ∈ (gOf l).su k, met.getD s false = true
  onj : ∀ s ∈ ((gOf l).su i).take j, met.getD s false = true
theorem Wo.start {l : List In} (h : 0 < l.length) : Wo l ((List.replicate l.length false).set 0 true) [0] := by
  have e : ∀ k, ((List.replicate l.length false).set 0 true).getD k false = true → k = 0 := fun k hk => by
    rw [getD_set_b, Bool.or_eq_true, decide_eq_true_eq] at hk
    rcases hk with hk | hk
    · exact hk.1
    · rw [List.getD_eq_getElem?_getD, List.getElem?_replicate] at hk
      split at hk <;> cases hk
  have z : ((List.replicate l.length false).set 0 true).getD 0 false = true := by
    rw [getD_set_b]; simp [h]
  exact ⟨by simp, fun k hk => by rw [e k hk]; exact .zero, fun k hk => by rw [List.mem_singleton.1 hk]; exact z, z, fun k hk => .inl (by rw [e k hk]; exact List.mem_singleton.2 rfl)⟩
theorem Wo.pop {l : List In} {met : List Bool} {T : List Nat} {i : Nat} (h : Wo l met (T ++ [i])) : Wi l met T i 0 ∧ (gOf l).R i := by
  have hc := h.in2 i (List.mem_append_right _ (List.mem_singleton.2 rfl))
  refine ⟨⟨h.len, h.in1, fun k hk => h.in2 k (List.mem_append_left _ hk), h.zero, hc, fun k hk => ?_, fun s hs => by simp at hs⟩, h.in1 i hc⟩
  rcases h.on k hk with c | c
  · rcases List.mem_append.1 c with c | c
    · exact .inl c
    · exact .inr (.inl (List.mem_singleton.1 c))
  · exact .inr (.inr c)
theorem take_next {L : List Nat} {j : Nat} (hj : j < L.length) : L.take (j + 1) = L.take j ++ [L.getD j 0] := by
  rw [List.take_add_one, List.getD_eq_getElem?_getD, List.getElem?_eq_getElem hj]; rfl
theorem Wi.old {l : List In} {met : List Bool} {T : List Nat} {i j : Nat} (h : Wi l met T i j) (hj : j < ((gOf l).su i).length) (hs : met.getD (((gOf l).su i).getD j 0) false = true) : Wi l met T i (j + 1) := by
  refine ⟨h.len, h.in1, h.in2, h.zero, h.cur, h.on, fun s hm => ?_⟩
  rw [take_next hj] at hm
  rcases List.mem_append.1 hm with c | c
  · exact h.onj s c
  · rw [List.mem_singleton.1 c]; exact hs
theorem Wi.new {l : List In} {met : List Bool} {T : List Nat} {i j : Nat} (hG : (gOf l).Ok) (h : Wi l met T i j) (hj : j < ((gOf l).su i).length) : Wi l (met.set (((gOf l).su i).getD j 0) true) (T ++ [((gOf l).su i).getD j 0]) i (j + 1) := by
  have hR : (gOf l).R (((gOf l).su i).getD j 0) := .step (h.in1 i h.cur) (Fl.getD_mem hj)
  have hlt : ((gOf l).su i).getD j 0 < met.length := by rw [h.len]; exact (hR.ok hG).1
  have ht := take_next hj
  generalize ((gOf l).su i).getD j 0 = s at *
  have hle : ∀ k, met.getD k false = true → (met.set s true).getD k false = true := fun k hk => by rw [getD_set_b, hk, Bool.or_true]
  have hss : (met.set s true).getD s false = true := by rw [getD_set_b]; simp [hlt]
  refine ⟨by rw [List.length_set]; exact h.len, fun k hk => ?_, fun k hk => ?_, hle 0 h.zero, hle i h.cur, fun k hk => ?_, fun t hm => ?_⟩
  · rw [getD_set_b, Bool.or_eq_true, decide_eq_true_eq] at hk
    rcases hk with ⟨rfl, _⟩ | hk
    · exact hR
    · exact h.in1 k hk
  · rcases List.mem_append.1 hk with c | c
    · exact hle k (h.in2 k c)
    · rw [List.mem_singleton.1 c]; exact hss
  · rw [getD_set_b, Bool.or_eq_true, decide_eq_true_eq] at hk
    rcases hk with ⟨rfl, _⟩ | hk
    · exact .inl (List.mem_append_right _ (List.mem_singleton.2 rfl))
    · rcases h.on k hk with c | c | c
      · exact .inl (List.mem_append_left _ c)
      · exact .inr (.inl c)
      · exact .inr (.inr fun t ht => hle t (c t ht))
  · rw [ht] at hm
    rcases List.mem_append.1 hm with c | c
    · exact hle t (h.onj t c)
    · rw [List.mem_singleton.1 c]; exact hss
theorem Wi.done {l : List In} {met : List Bool} {T : List Nat} {i : Nat} (h : Wi l met T i ((gOf l).su i).length) : Wo l met T := by
  refine ⟨h.len, h.in1, h.in2, h.zero, fun k hk => ?_⟩
  rcases h.on k hk with c | rfl | c
  · exact .inl c
  · exact .inr (fun s hs => h.onj s (by rw [List.take_length]; exact hs))
  · exact .inr c
theorem Wo.done {l : List In} {met : List Bool} (h : Wo l met []) : ∀ k, met.getD k false = (gOf l).rB k := by
  intro k
  have hR : ∀ j, (gOf l).R j → met.getD j false = true := by
    intro j hj
    induction hj with
    | zero => exact h.zero
    | step _ hs ih => exact (h.on _ ih).resolve_left (fun c => by cases c) _ hs
  cases hv : (gOf l).rB k with
  | true => exact hR k (Fl.Fg.rB_iff.1 hv)
  | false =>
    cases hs : met.getD k false with
    | false => rfl
    | true => rw [Fl.Fg.rB_iff.2 (h.in1 k hs)] at hv; cases hv
/-- and the row of where one goes on -/
structure Wk (w W : World) (g : Nat) (met : List Bool) (T : List Int) (q : Option Addr) (c : Nat) (ps : Option Addr) (xs : List Int) : Prop where
  rs : Rs w W g met T q c
  nu : NumsAt .i64 W ps xs
  ng : ∀ ad, ps = some ad → ad.block ≠ g
  nr : ∀ ad, ps = some ad → q.map Addr.block ≠ some ad.block
theorem Wk.start {w W W' : World} {g : Nat} {met : List Bool} {T xs : List Int} {q ps : Option Addr} {c : Nat} (h : Rs w W g met T q c) (hb : Below W.heap.size W W') (hn : NumsAt .i64 W' ps xs) (hp : ∀ ad, ps = some ad → W.heap.size ≤ ad.block) : Wk w W' g met T q c ps xs := by
  refine ⟨h.next hb, hn, fun ad e => ?_, fun ad e e2 => ?_⟩
  · have := hp ad e; have := h.sn.lt; omega
  · have := hp ad e
    have := (h.td.lt ad.block (by rw [own_blk]; exact e2)).2
    omega
theorem Wk.see {w W : World} {g k : Nat} {met : List Bool} {T xs : List Int} {q ps : Option Addr} {c : Nat} (h : Wk w W g met T q c ps xs) (hk : k < met.length) : Wk w (W.setCell ⟨g, k, none⟩ (.bool true)) g (met.set k true) T q c ps xs :=
  ⟨h.rs.see hk, NumsAt.setOther h.nu h.ng _, h.ng, h.nr⟩
theorem Wk.next {w W W' : World} {g : Nat} {met : List Bool} {T xs : List Int} {q ps : Option Addr} {c : Nat} (h : Wk w W g met T q c ps xs) (hb : Below W.heap.size W W') : Wk w W' g met T q c ps xs :=
  ⟨h.rs.next hb, h.nu.below hb, h.ng, h.nr⟩
theorem Wk.app {w W W' : World} {g n m c c' : Nat} {met : List Bool} {T xs ys : List Int} {q q' ps : Option Addr} (h : Wk w W g met T q c ps xs) (hn : T.length = n) (ho : W'.ownsRow w.heap.size 3 1 (.slice q' m c') (T ++ ys).length (intsV (T ++ ys))) (hm : (T ++ ys).length = m) (hg : W.grownBy W' (Value.slice q n c).ownBlock) (hb : (Value.slice q' m c').ownBlock = (Value.slice q n c).ownBlock ∨ (Value.slice q' m c').ownBlock = some W.heap.size)
    (hlt : ∀ ad, ps = some ad → ad.block < W.heap.size) : Wk w W' g met (T ++ ys) q' c' ps xs := by
  refine ⟨h.rs.app hn ho hm hg hb, h.nu.grown hg (fun ad e => by rw [own_blk]; exact h.nr ad e), h.ng, fun ad e => ?_⟩
  rw [own_blk, own_blk] at hb
  rcases hb with e2 | e2
  · rw [e2]; exact h.nr ad e
  · rw [e2]
    intro e3
    injection e3 with e3
    have := hlt ad e
    omega
theorem Rs.startW (w : World) (n : Nat) (hn : 0 < n) : Rs w ((w.alloc (.cells ((madeCells #[.bool false] n).setIfInBounds 0 (.bool true)) 4)).alloc (.cells #[.int .i64 0] 3)) w.heap.size ((List.replicate n false).set 0 true) [0] (some ⟨w.heap.size + 1, 0, none⟩) 1 := by
  have L := Lw.start2 w n hn
  refine ⟨L.low.alloc L.low.size _, L.rb.next ((Below.refl _ _).alloc (Nat.le_refl _) _), Nat.le_refl _, ?_, by simp⟩
  have h := World.ownsRow_lit (base := w.heap.size) (e := 3) (size := 1) (w.alloc (.cells ((madeCells #[.bool false] n).setIfInBounds 0 (.bool true)) 4)) #[.int .i64 0] 1 (by simp) (by decide) rfl
  rw [World.size_alloc] at h
  exact h
/-- how much is left to do -/
def leftW (met : List Bool) (T : List Int) : Nat := 2 * unseen met + T.length
theorem unseen_start {N : Nat} (h : 0 < N) : unseen ((List.replicate N false).set 0 true) + 1 = N := by
  have e := unseen_set (seen := List.replicate N false) (i := 0) (by simpa using h) (by simp [List.getD, h])
  have e2 : unseen (List.replicate N false) = N := by simp [unseen]
  omega
set_option maxRecDepth 100000 in
set_option maxHeartbeats 2000000 in
theorem walk_any (q : Option Addr) (qc : Nat) (l : List In) (w : World) (h : InsAt w q l) (hc : (checkS l).2 = 0) :
    Calls Try.prog 34 #[.slice q l.length qc] w fun e w' => ∃ g met, e = .returned (.slice (some ⟨g, 0, none⟩) l.length l.length) ∧ met.length = l.length ∧ (∀ k, met.getD k false = (gOf l).rB k) ∧ Rb w' g met ∧ Below w.heap.size w w' := by
  have HG := Lib.hid (check_flow hc)
  have hN := (check_ok hc).1
  have hN0 : 0 < l.length := by have := (check_ok hc).2.1; omega
  have HSU := Lib.hid (fun (i : Int) (W : World) (hb : Below w.heap.size w W) => psucc_new q qc l i W (h.below hb))
  unfold SuccQ at HSU
  have HT0 := Lib.hid (Wo.start hN0)
  have HSI := Lib.hid (fun (i : Nat) (hi : (gOf l).R i) => su_int hc hi)
  have hsl1 := fun (q : Option Addr) (len cap C : Nat) (h : C ≤ cap) W => (slice_headI q len cap C h W).1
  have hsl2 := fun (q : Option Addr) (len cap C : Nat) (h : C ≤ cap) W => (slice_headI q len cap C h W).2
  have HLN : Hid (∀ met T, Wo l met T → met.length = l.length) := Lib.hid (fun _ _ h => h.len)
  obtain ⟨N, hNl⟩ : ∃ N, l.length = N := ⟨_, rfl⟩
  have HNL := Lib.hid hNl
  rw [hNl] at HSU hN hN0 HT0 ⊢
  have HU0 := Lib.hid (unseen_start hN0)
  have HS := Lib.hid (Rs.startW w N hN0)
  have L0 := Lw.start2 w N hN0
  have c0 := L0.rb.cell 0 (by simpa using hN0)
  have hl := L0.rb.lt
  have hf := L0.rb.fr 0
  clear h hc hNl L0
  have hmk := fun W => run_make_row' (P := Try.prog) 49 4 (.bool false) 1 Try.underlying49 infoBool rfl .i64 .i64 N (by omega) (by omega) W
  have hm0 : (madeCells #[Value.bool false] N)[0]? = some (.bool false) := by simp [madeCells, hN0]
  go_enter Try.func34, Try.ntmps34
  go_wp2_with fail
  clear c0 hl hf hmk hm0
  go_loopg [4] (leftW ((List.replicate N false).set 0 true) [0]) (fun k t wr => ∃ (met : List Bool) (td : List Nat) (T : List Int) (p : Option Addr) (c : Nat), t = .slice p T.length c ∧ Hid (T = td.map Int.ofNat) ∧ Hid (Wo l met td) ∧ Hid (leftW met T ≤ k ∧ k ≤ 2 * N + 1) ∧ Rs w wr w.heap.size met T p c)
  case atStart => exact ⟨_, [0], [0], some ⟨w.heap.size + 1, 0, none⟩, 1, rfl, Lib.hid rfl, HT0, Lib.hid ⟨Nat.le_refl _, by have := HU0.out; unfold leftW; simp; omega⟩, HS.out⟩
  case round =>
    clear HS HT0
    obtain ⟨met, td, T, p, c, rfl, HTd, HTo, HK, hs⟩ := hrel
    have HS := Lib.hid hs
    by_cases hT : T.length = 0
    · obtain rfl : T = [] := List.eq_nil_of_length_eq_zero hT
      obtain rfl : td = [] := by have := HTd.out; simpa using this.symm
      have HD := Lib.hid HTo.out.done
      have hsl : met.length = N := by rw [HLN.out _ _ HTo.out, HNL.out]
      have HSL := Lib.hid hsl
      clear hs hT hsl
      rw [show ([] : List Int).length = 0 from rfl]
      go_wp2_with fail
      go_ret
      exact ⟨w.heap.size, met, rfl, HSL.out, HD.out, HS.out.sn, HS.out.low⟩
    · obtain ⟨T', x, hTx⟩ : ∃ T' x, T = T' ++ [x] := by
        rcases List.eq_nil_or_concat T with e | ⟨T', x, e⟩
        · rw [e] at hT; exact absurd rfl hT
        · exact ⟨T', x, by simpa using e⟩
      subst hTx
      clear hT
      obtain ⟨td', i, htd⟩ : ∃ (td' : List Nat) (i : Nat), td = td' ++ [i] ∧ T' = td'.map Int.ofNat ∧ x = (i : Int) := by
        have e := HTd.out
        rcases List.eq_nil_or_concat td with c | ⟨td', i, c⟩
        · rw [c] at e; simp at e
        · rw [c] at e
          have e' : T' ++ [x] = td'.map Int.ofNat ++ [(i : Int)] := by simpa using e
          obtain ⟨e1, e2⟩ := List.append_inj' e' rfl
          exact ⟨td', i, by simpa using c, e1, by simpa using e2⟩
      obtain ⟨rfl, hT', rfl⟩ := htd
      obtain ⟨g6, cap, hv, hg1, hg2⟩ := own_some hs.td (by simp)
      injection hv with hv1 hv2 hv3
      subst hv1 hv3
      obtain ⟨o1, o2, o3⟩ := own_pop hs.td
      have HO := Lib.hid o1
      have hTl : (T' ++ [(i : Int)]).length = T'.length + 1 := by simp
      have hn6 : ¬ g6 = w.heap.size := fun e => hs.ap (by rw [e]; rfl)
      have HKl := HK.out
      unfold leftW at HKl
      have hTN : T'.length ≤ 12289 := by simp at HKl; omega
      obtain ⟨hwi, hRi⟩ := Wo.pop HTo.out
      have HWI := Lib.hid hwi
      have HRi := Lib.hid hRi
      have hiN : i < N := by have := (hRi.ok HG.out).1; rw [← HNL.out]; exact this
      have hsl : met.length = N := by rw [HLN.out _ _ HTo.out, HNL.out]
      have hlt := hs.sn.lt
      rw [hTl]
      have HT' := Lib.hid hT'
      have HTn : Hid (T'.length = T'.length) := Lib.hid rfl
      clear HKl hTl hv2 hT' hwi hRi
      obtain ⟨n6, hn6'⟩ : ∃ n, T'.length = n := ⟨_, rfl⟩
      rw [hn6'] at HO o2 o3 hTN ⊢
      have HN6 := Lib.hid hn6'
      clear hn6' HTn o1
      have HP := Lib.hid (hs.pop HN6.out HO.out)
      have HSI2 := HSU.out (i : Int)
      rw [HSI.out i HRi.out] at HSI2
      simp only [List.length_map] at HSI2
      have hS2 : ((gOf l).su i).length ≤ 2 := by
        show ((succL l (i : Int)).map Int.toNat).length ≤ 2
        rw [List.length_map]; exact succL_le l _
      have HSR : Hid (∀ j, j < ((gOf l).su i).length → (gOf l).R (((gOf l).su i).getD j 0)) := Lib.hid (fun j hj => .step HRi.out (Fl.getD_mem hj))
      have HOLD := Lib.hid (fun met T j (h : Wi l met T i j) hj hs => h.old hj hs)
      have HNEW := Lib.hid (fun met T j (h : Wi l met T i j) hj => h.new HG.out hj)
      have HDONE := Lib.hid (fun met T (h : Wi l met T i ((gOf l).su i).length) => h.done)
      obtain ⟨SU, hSU⟩ : ∃ s, (gOf l).su i = s := ⟨_, rfl⟩
      rw [hSU] at HSI2 hS2 HSR HOLD HNEW HDONE
      obtain ⟨S, hS⟩ : ∃ n, SU.length = n := ⟨_, rfl⟩
      rw [hS] at HSI2 hS2 HSR HOLD HNEW HDONE
      have HSL := Lib.hid hS
      have HSX := Lib.hid HSI2
      have hK2 := HK.out
      clear hs hSU hS HSI2
      go_wp2_with (go_at_call 36; (with_reducible refine (HSX.out _ HP.out.low).mono ?_); rintro e w3 ⟨p3, c3, rfl, hn3, hb3, hp3⟩; have HW3 := Lib.hid (Wk.start HP.out hb3 hn3 hp3); clear hb3 hn3 hp3)
      go_loopw [4, 32] (fun t v wr2 => ∃ (j : Nat) (met2 : List Bool) (td2 : List Nat) (T2 : List Int) (p2 : Option Addr) (c2 : Nat), j ≤ S ∧ v = .int .i64 (j : Int) ∧ t = .slice p2 T2.length c2 ∧ Hid (T2 = td2.map Int.ofNat) ∧ Hid (Wi l met2 td2 i j) ∧ Hid (leftW met2 T2 ≤ leftW met T') ∧ Wk w wr2 w.heap.size met2 T2 p2 c2 p3 (SU.map Int.ofNat)) (fun _ v _ => S - (RowKit.intOf v).toNat)
      case atStart => exact ⟨0, met, td', T', _, _, Nat.zero_le _, rfl, by rw [HN6.out], HT', HWI, Lib.hid (Nat.le_refl _), HW3.out⟩
      case round =>
        clear HW3 HWI HP HO o2 o3 hlt hn6 hsl
        obtain ⟨j, met2, td2, T2, p2, c2, hj, rfl, rfl, HT2, HW2, HK2, hk2⟩ := hrel
        have HWK := Lib.hid hk2
        by_cases hjs : j < S
        · have hjs2 : j < SU.length := by rw [HSL.out]; exact hjs
          obtain ⟨b4, o4, rfl, hl4, e4⟩ := hk2.nu.cells j (by rw [List.length_map]; exact hjs2)
          have hse : (SU.map Int.ofNat).getD j 0 = ((SU.getD j 0 : Nat) : Int) := by
            rw [List.getD_eq_getElem?_getD, List.getElem?_map, List.getD_eq_getElem?_getD, List.getElem?_eq_getElem hjs2]; rfl
          rw [hse] at e4
          have hR := HSR.out j hjs
          have hsN : SU.getD j 0 < N := by have := (hR.ok HG.out).1; rw [← HNL.out]; exact this
          have HO2 := Lib.hid (HOLD.out met2 td2 j HW2.out hjs)
          have HN2 := Lib.hid (HNEW.out met2 td2 j HW2.out hjs)
          have hml : met2.length = N := by rw [HW2.out.len, HNL.out]
          generalize SU.getD j 0 = s at *
          have hsc := hk2.rs.sn.cell s (by omega)
          have hfr := hk2.rs.sn.fr s
          have hlt := hk2.rs.sn.lt
          cases hv : met2.getD s false with
          | true =>
            rw [hv] at hsc
            have HE := Lib.hid (HO2.out hv)
            clear hk2 hv hR HN2 HO2
            go_wp2_with fail
            go_roundw
            case rel => exact ⟨j + 1, met2, td2, T2, p2, c2, by omega, rfl, rfl, HT2, HE, HK2, HWK.out⟩
            case measure => simp [RowKit.intOf]; omega
          | false =>
            rw [hv] at hsc
            have HU := Lib.hid (unseen_set (seen := met2) (i := s) (by omega) hv)
            have HV := Lib.hid (hk2.see (k := s) (by omega))
            have hTl : T2.length ≤ 2 * N + 1 := by have := HK2.out; have := HK.out; unfold leftW at *; simp at *; omega
            have HTL := Lib.hid hTl
            have HN9 : Hid (∀ (x : Int) (W : World) (n : Nat), W.heap.size = n → NumsAt .i64 (W.alloc (.cells #[.int .i64 x] 3)) (some ⟨n, 0, none⟩) [x]) := Lib.hid (fun x W n h => by subst h; exact nums_new (k := .i64) W 3 [x] #[.int .i64 x] rfl (by simp))
            have hne : ¬ b4 = w.heap.size := fun e => hk2.ng _ rfl e
            obtain ⟨n2, hn2⟩ : ∃ n, T2.length = n := ⟨_, rfl⟩
            have HN2L := Lib.hid hn2
            rw [hn2]
            rw [hn2] at hTl
            clear hk2 hv hR HO2 hn2
            go_wp2_with (at_builtin; refine wpList_app_ints rfl (.tmp 44) (.tmp 46) rfl rfl w.heap.size (some ⟨wr.heap.size, 0, none⟩) [(s : Int)] T2 (.slice p2 n2 c2) 1 1 rfl rfl rfl (HN2L.out ▸ (HV.out.next ((Below.refl _ _).alloc (Nat.le_refl _) _)).rs.td) (HN9.out _ _ _ (by simp)) (by have := HV.out.rs.low.size; simp at this ⊢; omega) (by have := HTL.out; simp; omega) ?_; intro v8 w8 ho8 hg8 hb8; obtain ⟨q8, c8, rfl⟩ := own_form ho8; have HR8 := Lib.hid (Wk.app (HV.out.next ((Below.refl _ _).alloc (Nat.le_refl _) _)) HN2L.out ho8 rfl hg8 hb8 (fun ad e => by cases e; simp [World.setCell]; omega)); clear ho8 hg8 hb8)
            go_roundw
            case rel => exact ⟨j + 1, _, _, _, q8, c8, by omega, rfl, by simp, Lib.hid (by rw [HT2.out, List.map_append]; rfl), HN2.out |> Lib.hid, Lib.hid (by have := HK2.out; have := HU.out; unfold leftW at *; simp at *; omega), HR8.out⟩
            case measure => simp [RowKit.intOf]; omega
        · obtain rfl : j = S := by omega
          have HE := Lib.hid (HDONE.out met2 td2 HW2.out)
          clear hk2
          go_wp2_with fail
          go_roundg (leftW met2 T2)
          case measure => have := HK.out.1; have := HK2.out; unfold leftW at *; simp at *; omega
          case rel => exact ⟨met2, td2, T2, p2, c2, rfl, HT2, HE, Lib.hid ⟨Nat.le_refl _, by have := HK.out; have := HK2.out; unfold leftW at *; simp at *; omega⟩, HWK.out.rs⟩
/-- in the loop of reach: the row that is made -/
structure Rr (w W : World) (g : Nat) (met : List Bool) (T : List Int) (q : Option Addr) (c : Nat) : Prop where
  low : Below w.heap.size w W
  sn : Rb W g met
  td : W.ownsRow w.heap.size 3 1 (.slice q T.length c) T.length (intsV T)
  ap : q.map Addr.block ≠ some g
theorem Rr.next {w W W' : World} {g : Nat} {met : List Bool} {T : List Int} {q : Option Addr} {c : Nat} (h : Rr w W g met T q c) (hb : Below W.heap.size W W') : Rr w W' g met T q c :=
  ⟨below_next h.low hb, h.sn.next hb, own_below h.td hb, h.ap⟩
theorem Rr.app {w W W' : World} {g n m c c' : Nat} {met : List Bool} {T xs : List Int} {q q' : Option Addr} (h : Rr w W g met T q c) (hn : T.length = n) (ho : W'.ownsRow w.heap.size 3 1 (.slice q' m c') (T ++ xs).length (intsV (T ++ xs))) (hm : (T ++ xs).length = m) (hg : W.grownBy W' (Value.slice q n c).ownBlock) (hb : (Value.slice q' m c').ownBlock = (Value.slice q n c).ownBlock ∨ (Value.slice q' m c').ownBlock = some W.heap.size) : Rr w W' g met (T ++ xs) q' c' := by
  subst hn hm
  rw [own_blk] at hg
  rw [own_blk, own_blk] at hb
  refine ⟨h.low.grown hg h.low.size (fun k hk => ?_), h.sn.grown hg h.ap, ho, fun e => ?_⟩
  · exact (h.td.lt k (by rw [own_blk]; exact hk)).1
  · rcases hb with e2 | e2
    · exact h.ap (e2.symm.trans e)
    · rw [e] at e2
      have := h.sn.lt
      injection e2 with e2
      omega
set_option maxRecDepth 100000 in
set_option maxHeartbeats 2000000 in
theorem reach_any (q : Option Addr) (qc : Nat) (l : List In) (w : World) (h : InsAt w q l) (hc : (checkS l).2 = 0) :
    Calls Try.prog 19 #[.slice q l.length qc] w fun e w' => ∃ p c, e = .returned (.slice p (reachI l).length c) ∧ NumsAt .i64 w' p (reachI l) ∧ Below w.heap.size w w' := by
  have HW := Lib.hid (walk_any q qc l w h hc)
  have hN := (check_ok hc).1
  have HCK := Lib.hid hc
  obtain ⟨N, hNl⟩ : ∃ N, l.length = N := ⟨_, rfl⟩
  have HNL := Lib.hid hNl
  rw [hNl] at HW hN ⊢
  clear h hc hNl
  go_enter Try.func19, Try.ntmps19
  go_wp2_with (go_at_call 34; (with_reducible refine HW.out.mono ?_); rintro e w1 ⟨g, met, rfl, hml, hmr, hrb, hb⟩; have HS : Hid (Rr w w1 g met [] none 0) := Lib.hid ⟨hb, hrb, World.ownsRow_nil _ _ _ _, by simp⟩; have HSL := Lib.hid hml; have HD := Lib.hid hmr; clear hb hrb hml hmr)
  go_loopw [4, 10] (fun o i wr => ∃ (k : Nat) (p : Option Addr) (c : Nat), k ≤ N ∧ i = .int .i64 (k : Int) ∧ o = .slice p (rK l k).length c ∧ Rr w wr g met (rK l k) p c) (fun _ i _ => N - (RowKit.intOf i).toNat)
  case atStart => exact ⟨0, none, 0, Nat.zero_le _, rfl, rfl, HS.out⟩
  case round =>
    clear HS
    obtain ⟨k, p9, c9, hk1, rfl, rfl, hs⟩ := hrel
    have HS := Lib.hid hs
    by_cases hk : k < N
    · have hsc := hs.sn.cell k (by rw [HSL.out]; exact hk)
      have hlt := hs.sn.lt
      rw [HD.out k] at hsc
      cases hv : (gOf l).rB k with
      | true =>
        rw [hv] at hsc
        have HE : Hid (rK l (k + 1) = rK l k ++ [(k : Int)]) := Lib.hid (rK_yes hv)
        have HLE := Lib.hid (rK_len l k)
        have HN9 := Lib.hid (fun W => nums_new (k := .i64) W 3 [(k : Int)] #[.int .i64 (k : Int)] rfl (by simp))
        clear hs hv
        go_wp2_with (at_builtin; refine wpList_app_ints rfl (.tmp 17) (.tmp 19) rfl rfl w.heap.size (some ⟨wr.heap.size, 0, none⟩) [(k : Int)] (rK l k) (.slice p9 (rK l k).length c9) 1 1 rfl rfl rfl (own_below HS.out.td ((Below.refl _ _).alloc (Nat.le_refl _) _)) (HN9.out _) (by have := HS.out.low.size; simp; omega) (by have := HLE.out; simp; omega) ?_; intro v8 w8 ho8 hg8 hb8; obtain ⟨q8, c8, rfl⟩ := own_form ho8; have HR8 := Lib.hid (Rr.app (HS.out.next ((Below.refl _ _).alloc (Nat.le_refl _) _)) rfl ho8 rfl hg8 hb8); clear ho8 hg8 hb8)
        go_roundw
        case rel => exact ⟨k + 1, q8, c8, by omega, rfl, by rw [HE.out]; simp, by rw [HE.out]; exact HR8.out⟩
        case measure => simp [RowKit.intOf]; omega
      | false =>
        rw [hv] at hsc
        have HE : Hid (rK l (k + 1) = rK l k) := Lib.hid (rK_no hv)
        clear hs hv
        go_wp2_with fail
        go_roundw
        case rel => exact ⟨k + 1, p9, c9, by omega, rfl, by rw [HE.out], by rw [HE.out]; exact HS.out⟩
        case measure => simp [RowKit.intOf]; omega
    · obtain rfl : N = k := by omega
      have HE : Hid (reachI l = rK l N) := Lib.hid (by rw [reachI_ok HCK.out, ← HNL.out]; rfl)
      have HLE := Lib.hid (rK_len l N)
      clear hs
      go_wp2_with fail
      go_ret
      refine ⟨p9, c9, by rw [HE.out]; rfl, ?_, HS.out.low⟩
      rw [HE.out]
      exact own_nums HS.out.td (by have := HLE.out; omega)
set_option maxRecDepth 100000 in
set_option maxHeartbeats 1000000 in
theorem sreach_any (q : Option Addr) (qc : Nat) (l : List In) (w : World) (h : InsAt w q l) : Calls Try.prog 11 #[.slice q l.length qc] w fun e w' => ∃ p c, e = .returned (.slice p (reachI l).length c) ∧ NumsAt .i64 w' p (reachI l) ∧ Below w.heap.size w w' := by
  have HC := Lib.hid (check_any q qc l w h)
  unfold CheckP at HC
  by_cases hc : (checkS l).2 = 0
  · have HR := Lib.hid (fun W (hW : Below w.heap.size w W) => reach_any q qc l W (h.below hW) hc)
    rw [hc] at HC
    generalize (checkS l).1 = e0 at *
    generalize l.length = N at *
    clear h hc
    go_enter Try.func11, Try.ntmps11
    go_wp2_with (first
      | (go_at_call 18; (with_reducible refine HC.out.mono ?_); rintro e w1 ⟨rfl, hb⟩; have B1 := Lib.hid hb; clear hb)
      | (go_at_call 19; (with_reducible refine (HR.out _ B1.out).mono ?_); rintro e w2 ⟨p, c, rfl, hn, hb⟩; have B2 := Lib.hid (B1.out.trans (hb.mono B1.out.size)); have HN := Lib.hid hn; clear hb hn))
    go_ret
    exact ⟨p, c, rfl, HN.out, B2.out⟩
  · rw [reachI_no hc]
    have hne : ((checkS l).2 != 0) = true := by simpa using hc
    generalize (checkS l).2 = e1 at *
    generalize (checkS l).1 = e0 at *
    generalize l.length = N at *
    clear h
    go_enter Try.func11, Try.ntmps11
    go_wp2_with (go_at_call 18; (with_reducible refine HC.out.mono ?_); rintro e w1 ⟨rfl, hb⟩; have B1 := Lib.hid hb; clear hb)
    go_ret
    exact ⟨none, 0, rfl, nums_nil _ _, B1.out⟩
end Go.Proofs.Ytlpijnnlmgoihaa
