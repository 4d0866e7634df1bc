/- Flow: the document's own Reach. -/
import Derived.Test.YtlpijnnlmgoihaaFD
import Derived.Test.YtlpijnnlmgoihaaT4
import Derived.Deep.LoopGhost
namespace Go.Proofs.Ytlpijnnlmgoihaa
open Go.RowKit M

/-- in the loop of Reach: what is seen, what is to do -/
structure Rs (w wr : World) (g : Nat) (seen : List Bool) (T : List Int) (q : Option Addr) (c : Nat) : Prop where
  low : Below w.heap.size w wr
  sn : Rb wr g seen
  gb : w.heap.size ≤ g
  td : wr.ownsRow w.heap.size 3 1 (.slice q T.length c) T.length (intsV T)
  ap : q.map Addr.block ≠ some g
theorem Rs.next {w W W' : World} {g : Nat} {seen : List Bool} {T : List Int} {q : Option Addr} {c : Nat} (h : Rs w W g seen T q c) (hb : Below W.heap.size W W') : Rs w W' g seen T q c :=
  ⟨below_next h.low hb, h.sn.next hb, h.gb, own_below h.td hb, h.ap⟩
set_option maxRecDepth 100000 in
set_option maxHeartbeats 1000000 in
theorem rreach_no (q : Option Addr) (qc : Nat) (l : List In) (w : World) (h : InsAt w q l) (hc : ¬ (checkS l).2 = 0) :
    Calls Try.prog 12 #[.slice q l.length qc] w fun e w' => e = .returned (.slice none 0 0) ∧ Below w.heap.size w w' := by
  have HC := Lib.hid (rcheck_any q qc l w h)
  unfold CheckP at HC
  have hne : ((checkS l).2 != 0) = true := by simpa using hc
  generalize (checkS l).2 = e1 at *
  generalize (checkS l).1 = e0 at *
  generalize l.length = N at *
  clear h
  go_enter Try.func12, Try.ntmps12
  go_wp2_with (go_at_call 23; (with_reducible refine HC.out.mono ?_); rintro e w1 ⟨rfl, hb⟩; have B1 := Lib.hid hb; clear hb)
  go_ret
  exact ⟨rfl, B1.out⟩
set_option maxRecDepth 100000 in
theorem slice_headI (q : Option Addr) (len cap C : Nat) (h : C ≤ cap) (w : World) :
    (Instr.sliceAt 31 (.slice q len cap) none (some (.int .i64 C)) none).run Try.prog w = .ok (.slice q C cap) w ∧ (Instr.slice 31 (.slice q len cap) none (some (.int .i64 C)) none).run Try.prog w = .ok (.slice q C cap) w := by
  have e : (Instr.slice 31 (.slice q len cap) none (some (.int .i64 C)) none).run Try.prog w = .ok (.slice q C cap) w := by
    rw [run_slice_h w 31 q len cap Try.underlying31 .i64 C (by omega) (by omega)]
    have hz : (sizeOf (Try.prog.elem 31)).run Try.prog w = .ok 1 w := by kernel_rfl
    rw [hz]
    have hq : q.map (·.add 0) = q := by cases q <;> simp [Addr.add]
    simp [sliced, hq]
  exact ⟨(run_sliceAt_slice w 31 _ _ _ _ Try.underlying31).trans e, e⟩
theorem own_form {w : World} {base e size : Nat} {v : Value} {n : Nat} {xs : List Value} (h : w.ownsRow base e size v n xs) : ∃ q c, v = .slice q n c := by
  rcases h.2 with ⟨rfl, rfl⟩ | ⟨g, cap, cur, rfl, _⟩
  · exact ⟨none, 0, rfl⟩
  · exact ⟨_, _, rfl⟩
theorem own_blk (q : Option Addr) (n c : Nat) : (Value.slice q n c).ownBlock = q.map Addr.block := by
  cases q <;> rfl
/-- more to do -/
theorem Rs.app {w W W' : World} {g : Nat} {seen : List Bool} {T xs : List Int} {q q' : Option Addr} {n m c c' : Nat} (h : Rs w W g seen T q c) (hn : T.length = n) (ho : W'.ownsRow w.heap.size 3 1 (.slice q' m c') (T ++ xs).length (intsV (T ++ xs))) (hm : (T ++ xs).length = m) (hg : W.grownBy W' (Value.slice q n c).ownBlock) (hb : (Value.slice q' m c').ownBlock = (Value.slice q n c).ownBlock ∨ (Value.slice q' m c').ownBlock = some W.heap.size) : Rs w W' g seen (T ++ xs) q' c' := by
  subst hn hm
  rw [own_blk] at hg
  rw [own_blk, own_blk] at hb
  refine ⟨h.low.grown hg h.low.size (fun k hk => ?_), h.sn.grown hg h.ap, h.gb, ho, fun e => ?_⟩
  · exact (h.td.lt k (by rw [own_blk]; exact hk)).1
  · rcases hb with e2 | e2
    · exact h.ap (e2.symm.trans e)
    · rw [e] at e2
      have := h.sn.lt
      injection e2 with e2
      omega
theorem Rs.see {w W : World} {g i : Nat} {seen : List Bool} {T : List Int} {q : Option Addr} {c : Nat} (h : Rs w W g seen T q c) (hi : i < seen.length) : Rs w (W.setCell ⟨g, i, none⟩ (.bool true)) g (seen.set i true) T q c :=
  ⟨h.low.setCell (p := ⟨g, i, none⟩) h.gb _, h.sn.set hi, h.gb, own_setOther h.td (by rw [own_blk]; exact h.ap), h.ap⟩
theorem Rs.pop {w W : World} {g g6 n : Nat} {seen : List Bool} {T : List Int} {x : Int} {c : Nat} (h : Rs w W g seen (T ++ [x]) (some ⟨g6, 0, none⟩) c) (hn : T.length = n) (ho : W.ownsRow w.heap.size 3 1 (.slice (some ⟨g6, 0, none⟩) n c) n (intsV T)) : Rs w W g seen T (some ⟨g6, 0, none⟩) c := by
  subst hn
  exact ⟨h.low, h.sn, h.gb, ho, h.ap⟩
theorem su_int {l : List In} (hc : (checkS l).2 = 0) {i : Nat} (hi : (gOf l).R i) : succL l (i : Int) = ((gOf l).su i).map Int.ofNat := by
  obtain ⟨h1, h2⟩ := hi.ok (check_flow hc)
  have hp := may_place (check_ok hc).2.2 (place_nat.2 ⟨h1, h2⟩)
  show succL l (i : Int) = ((succL l (i : Int)).map Int.toNat).map Int.ofNat
  rw [List.map_map]
  conv => lhs; rw [← List.map_id (succL l (i : Int))]
  refine List.map_congr_left fun n hn => ?_
  have := (placeB_true.1 (hp n hn)).1.1
  show n = ((n.toNat : Nat) : Int)
  omega
/-- what one may come to, below k -/
noncomputable def rK (l : List In) (k : Nat) : List Int := ((List.range k).filter (gOf l).rB).map Int.ofNat
theorem rK_yes {l : List In} {k : Nat} (h : (gOf l).rB k = true) : rK l (k + 1) = rK l k ++ [(k : Int)] := by
  unfold rK
  rw [List.range_succ, List.filter_append, List.map_append, List.filter_cons_of_pos h]; rfl
theorem rK_no {l : List In} {k : Nat} (h : (gOf l).rB k = false) : rK l (k + 1) = rK l k := by
  unfold rK
  rw [List.range_succ, List.filter_append, List.map_append, List.filter_cons_of_neg (by rw [h]; simp)]; simp
theorem rK_len (l : List In) (k : Nat) : (rK l k).length ≤ k := by
  unfold rK
  have := List.length_filter_le (gOf l).rB (List.range k)
  simpa using this
/-- how much is left to do -/
def leftR (seen : List Bool) (T : List Int) : Nat := 3 * unseen seen + T.length
theorem Rs.start {w w1 : World} (N : Nat) (hb : Below w.heap.size w w1) :
    Rs w ((w1.alloc (.cells (madeCells #[.bool false] N) 4)).alloc (.cells #[.int .i64 0] 3)) w1.heap.size (List.replicate N false) [0] (some ⟨w1.heap.size + 1, 0, none⟩) 1 := by
  refine ⟨(hb.alloc hb.size _).alloc (by simp; have := hb.size; omega) _, ?_, hb.size, ?_, by simp⟩
  · have h : Rb (w1.alloc (.cells (madeCells #[.bool false] N) 4)) w1.heap.size (List.replicate N false) := by
      refine ⟨by simp, fun i hi => ?_, fun j => World.frozen?_alloc_new _ _ _ j⟩
      have hi' : i < N := by simpa using hi
      refine cell_new w1 ?_
      rw [List.getD_eq_getElem?_getD, List.getElem?_replicate, if_pos hi']
      simp [madeCells, hi', Nat.mod_one]
    exact h.next ((Below.refl _ _).alloc (Nat.le_refl _) _)
  · have h := World.ownsRow_lit (base := w.heap.size) (e := 3) (size := 1) (w1.alloc (.cells (madeCells #[.bool false] N) 4)) #[.int .i64 0] 1 (by simp; have := hb.size; omega) (by decide) rfl
    rw [World.size_alloc] at h
    exact h
set_option maxRecDepth 100000 in
set_option maxHeartbeats 2000000 in
theorem rreach_yes (q : Option Addr) (qc : Nat) (l : List In) (w : World) (h : InsAt w q l) (hc : (checkS l).2 = 0) :
    Calls Try.prog 12 #[.slice q l.length qc] w fun e w' => ∃ p c, e = .returned (.slice p (reachI l).length c) ∧ NumsAt .i64 w' p (reachI l) ∧ Below w.heap.size w w' := by
  have HC := Lib.hid (rcheck_any q qc l w h)
  unfold CheckP at HC
  rw [hc] at HC
  have HG := Lib.hid (check_flow hc)
  have hN := (check_ok hc).1
  have HSU := Lib.hid (fun (i : Int) (W : World) (hb : Below w.heap.size w W) => rsucc_any q qc l i W (h.below hb))
  unfold SuccP at HSU
  have HT0 := Lib.hid (Todo.start l)
  have HCK := Lib.hid hc
  have HSI := Lib.hid (fun (i : Nat) (hi : (gOf l).R i) => su_int hc hi)
  have hsl1 := fun (q : Option Addr) (len cap C : Nat) (h : C ≤ cap) W => (slice_headI q len cap C h W).1
  have hsl2 := fun (q : Option Addr) (len cap C : Nat) (h : C ≤ cap) W => (slice_headI q len cap C h W).2
  have HLN : Hid (∀ seen todo, Todo l seen todo → seen.length = l.length) := Lib.hid (fun _ _ h => h.len)
  generalize (checkS l).1 = e0 at *
  obtain ⟨N, hNl⟩ : ∃ N, l.length = N := ⟨_, rfl⟩
  have HNL := Lib.hid hNl
  rw [hNl] at HC HSU hN HT0 ⊢
  clear h hc hNl
  have hmk := fun W => run_make_row' (P := Try.prog) 49 4 (.bool false) 1 Try.underlying49 infoBool rfl .i64 .i64 N (by omega) (by omega) W
  go_enter Try.func12, Try.ntmps12
  go_wp2_with (go_at_call 23; (with_reducible refine HC.out.mono ?_); rintro e w1 ⟨rfl, hb⟩; have HS := Lib.hid (Rs.start N hb); clear hb)
  go_loopg [6] (leftR (List.replicate N false) [0]) (fun k t wr => ∃ (seen : List Bool) (td : List Nat) (T : List Int) (p : Option Addr) (c : Nat), t = .slice p T.length c ∧ Hid (T = td.map Int.ofNat) ∧ Hid (Todo l seen td) ∧ Hid (leftR seen T ≤ k ∧ k ≤ 3 * N + 1) ∧ Rs w wr w1.heap.size seen T p c)
  case atStart => exact ⟨List.replicate N false, [0], [0], some ⟨w1.heap.size + 1, 0, none⟩, 1, rfl, Lib.hid rfl, HT0, Lib.hid ⟨Nat.le_refl _, by simp [leftR, unseen]⟩, HS.out⟩
  case round =>
    clear HS HT0
    obtain ⟨seen, td, T, p, c, rfl, HTd, HTo, HK, hs⟩ := hrel
    have HS := Lib.hid hs
    by_cases hT : T.length = 0
    · obtain rfl : T = [] := List.eq_nil_of_length_eq_zero hT
      obtain rfl : td = [] := by have := HTd.out; simpa using this.symm
      have HD := Lib.hid HTo.out.done
      have hsl : seen.length = N := by rw [HLN.out _ _ HTo.out, HNL.out]
      have HSL := Lib.hid hsl
      clear hs hT hsl
      rw [show ([] : List Int).length = 0 from rfl]
      go_wp2_with fail
      go_loopw [8, 9] (fun o i wr => ∃ (k : Nat) (p : Option Addr) (c : Nat), k ≤ N ∧ i = .int .i64 (k : Int) ∧ o = .slice p (rK l k).length c ∧ Rs w wr w1.heap.size seen (rK l k) p c) (fun _ i _ => N - (intOf i).toNat)
      case atStart => exact ⟨0, none, 0, Nat.zero_le _, rfl, rfl, HS.out.low, HS.out.sn, HS.out.gb, World.ownsRow_nil _ _ _ _, by simp⟩
      case round =>
        clear HS
        obtain ⟨k, p9, c9, hk1, rfl, rfl, hs⟩ := hrel
        have HS := Lib.hid hs
        by_cases hk : k < N
        · have hsc := hs.sn.cell k (by rw [HSL.out]; exact hk)
          have hlt := hs.sn.lt
          rw [HD.out k] at hsc
          cases hv : (gOf l).rB k with
          | true =>
            rw [hv] at hsc
            have HE : Hid (rK l (k + 1) = rK l k ++ [(k : Int)]) := Lib.hid (rK_yes hv)
            have HLE := Lib.hid (rK_len l k)
            have HN9 := Lib.hid (fun W => nums_new (k := .i64) W 3 [(k : Int)] #[.int .i64 (k : Int)] rfl (by simp))
            clear hs hv
            go_wp2_with (at_builtin; refine wpList_app_ints rfl (.tmp 58) (.tmp 60) rfl rfl w.heap.size (some ⟨wr.heap.size, 0, none⟩) [(k : Int)] (rK l k) (.slice p9 (rK l k).length c9) 1 1 rfl rfl rfl (own_below HS.out.td ((Below.refl _ _).alloc (Nat.le_refl _) _)) (HN9.out _) (by have := HS.out.low.size; simp; omega) (by have := HLE.out; simp; omega) ?_; intro v8 w8 ho8 hg8 hb8; obtain ⟨q8, c8, rfl⟩ := own_form ho8; have HR8 := Lib.hid (Rs.app (HS.out.next ((Below.refl _ _).alloc (Nat.le_refl _) _)) rfl ho8 rfl hg8 hb8); clear ho8 hg8 hb8)
            go_roundw
            case rel => exact ⟨k + 1, q8, c8, by omega, rfl, by rw [HE.out]; simp, by rw [HE.out]; exact HR8.out⟩
            case measure => simp [intOf]; omega
          | false =>
            rw [hv] at hsc
            have HE : Hid (rK l (k + 1) = rK l k) := Lib.hid (rK_no hv)
            clear hs hv
            go_wp2_with fail
            go_roundw
            case rel => exact ⟨k + 1, p9, c9, by omega, rfl, by rw [HE.out], by rw [HE.out]; exact HS.out⟩
            case measure => simp [intOf]; omega
        · obtain rfl : N = k := by omega
          have HE : Hid (reachI l = rK l N) := Lib.hid (by rw [reachI_ok HCK.out, ← HNL.out]; rfl)
          have HLE := Lib.hid (rK_len l N)
          clear hs
          go_wp2_with fail
          go_ret
          refine ⟨p9, c9, by rw [HE.out]; rfl, ?_, HS.out.low⟩
          rw [HE.out]
          exact own_nums HS.out.td (by have := HLE.out; omega)
    · obtain ⟨T', x, hTx⟩ : ∃ T' x, T = T' ++ [x] := by
        rcases List.eq_nil_or_concat T with e | ⟨T', x, e⟩
        · rw [e] at hT; exact absurd rfl hT
        · exact ⟨T', x, by simpa using e⟩
      subst hTx
      clear hT
      obtain ⟨td', i, htd⟩ : ∃ (td' : List Nat) (i : Nat), td = td' ++ [i] ∧ T' = td'.map Int.ofNat ∧ x = (i : Int) := by
        have e := HTd.out
        rcases List.eq_nil_or_concat td with c | ⟨td', i, c⟩
        · rw [c] at e; simp at e
        · rw [c] at e
          have e' : T' ++ [x] = td'.map Int.ofNat ++ [(i : Int)] := by simpa using e
          obtain ⟨e1, e2⟩ := List.append_inj' e' rfl
          exact ⟨td', i, by simpa using c, e1, by simpa using e2⟩
      obtain ⟨rfl, hT', rfl⟩ := htd
      obtain ⟨g6, cap, hv, hg1, hg2⟩ := own_some hs.td (by simp)
      injection hv with hv1 hv2 hv3
      subst hv1 hv3
      obtain ⟨o1, o2, o3⟩ := own_pop hs.td
      have HO := Lib.hid o1
      have hTl : (T' ++ [(i : Int)]).length = T'.length + 1 := by simp
      have hn6 : ¬ g6 = w1.heap.size := fun e => hs.ap (by rw [e]; rfl)
      have HKl := HK.out
      unfold leftR at HKl
      have hTN : T'.length ≤ 12289 := by simp at HKl; omega
      have hiN : i < N := by have := (Todo.new HG.out HTo.out).1; rw [HNL.out] at this; exact this
      have hsl : seen.length = N := by rw [HLN.out _ _ HTo.out, HNL.out]
      have hsc := hs.sn.cell i (by omega)
      have hfr := hs.sn.fr
      have hlt := hs.sn.lt
      rw [hTl]
      have HT' := Lib.hid hT'
      have HTn : Hid (T'.length = T'.length) := Lib.hid rfl
      clear HKl hTl hv2 hT'
      obtain ⟨n6, hn6'⟩ : ∃ n, T'.length = n := ⟨_, rfl⟩
      rw [hn6'] at HO o2 o3 hTN ⊢
      have HN6 := Lib.hid hn6'
      clear hn6' HTn o1
      have hK2 := HK.out
      cases hv : seen.getD i false with
      | true =>
        rw [hv] at hsc
        have HV := Lib.hid hv
        clear hs hv hK2
        go_wp2_with fail
        go_roundg (leftR seen T')
        case measure => have := HK.out.1; unfold leftR at *; simp at this; omega
        case rel => exact ⟨seen, td', T', some ⟨g6, 0, none⟩, c, by rw [HN6.out], HT', Lib.hid (HTo.out.old HV.out), Lib.hid ⟨Nat.le_refl _, by have := HK.out; unfold leftR at *; simp at this; omega⟩, HS.out.pop HN6.out HO.out⟩
      | false =>
        rw [hv] at hsc
        have HV := Lib.hid hv
        have HR5 := Lib.hid ((HS.out.pop HN6.out HO.out).see (i := i) (by omega))
        have HRi : Hid ((gOf l).R i) := Lib.hid (HTo.out.in2 i (by simp))
        have HL2 := Lib.hid (succL_le l (i : Int))
        have HU : Hid (unseen (seen.set i true) + 1 = unseen seen) := Lib.hid (unseen_set (by omega) hv)
        clear hs hv hK2
        go_wp2_with (first
          | (go_at_call 16; (with_reducible refine (HSU.out (i : Int) _ HR5.out.low).mono ?_); rintro e w3 ⟨p3, c3, rfl, hn3, hb3⟩; have HR6 := Lib.hid (HR5.out.next hb3); have HN3 := Lib.hid hn3; clear hb3 hn3)
          | (at_builtin; refine wpList_app_ints rfl (.tmp 43) (.tmp 46) rfl rfl w.heap.size p3 (succL l (i : Int)) T' (.slice (some ⟨g6, 0, none⟩) n6 c) (succL l (i : Int)).length c3 rfl rfl rfl (HN6.out ▸ HR6.out.td) HN3.out HR6.out.low.size (by have := HL2.out; have := HN6.out; omega) ?_; intro v8 w8 ho8 hg8 hb8; obtain ⟨q8, c8, rfl⟩ := own_form ho8; have HR8 := Lib.hid (Rs.app HR6.out HN6.out ho8 rfl hg8 hb8); clear ho8 hg8 hb8))
        go_roundg (leftR (seen.set i true) (T' ++ succL l (i : Int)))
        case measure => have := HK.out.1; have := HU.out; have := HL2.out; unfold leftR at *; simp at *; omega
        case rel => exact ⟨seen.set i true, td' ++ (gOf l).su i, T' ++ succL l (i : Int), q8, c8, by simp, Lib.hid (by rw [HT'.out, HSI.out i HRi.out, List.map_append]), Lib.hid (HTo.out.new HG.out).2, Lib.hid ⟨Nat.le_refl _, by have := HK.out; have := HU.out; have := HL2.out; unfold leftR at *; simp at *; omega⟩, HR8.out⟩
theorem rreach_any (q : Option Addr) (qc : Nat) (l : List In) (w : World) (h : InsAt w q l) :
    Calls Try.prog 12 #[.slice q l.length qc] w fun e w' => ∃ p c, e = .returned (.slice p (reachI l).length c) ∧ NumsAt .i64 w' p (reachI l) ∧ Below w.heap.size w w' := by
  by_cases hc : (checkS l).2 = 0
  · exact rreach_yes q qc l w h hc
  · refine (rreach_no q qc l w h hc).mono ?_
    rintro e w' ⟨rfl, hb⟩
    rw [reachI_no hc]
    exact ⟨none, 0, rfl, nums_nil _ _, hb⟩
end Go.Proofs.Ytlpijnnlmgoihaa
