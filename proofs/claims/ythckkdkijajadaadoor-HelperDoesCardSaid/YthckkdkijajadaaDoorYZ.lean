/- Contract of the document's own Do: recv, done. -/
import Derived.Test.YthckkdkijajadaaDoorYY
import Derived.Test.YthckkdkijajadaaDoorMN
namespace Go.Proofs.YthckkdkijajadaaDoor
open Go.RowKit M

theorem repL_snoc (x : Int) (k : Nat) : bytesV (repL x (k + 1)) = bytesV (repL x k) ++ [.int .u8 (x / 2 ^ (8 * (k % 8)) % 256)] := by
  simp [bytesV, repL, List.range_succ, repB, putB]
set_option maxRecDepth 100000 in
set_option maxHeartbeats 16000000 in
theorem rdo_recv (c : Int) (cw : Bool) (p : Option Addr) (len cap : Nat) (mp : Option Addr) (mc : Nat) (M : List (List Int)) (b o : Nat) (A : List Int) (cc : Nat) (sq : Option Addr) (sl sc : Nat) (C : Nat) (nm : ByteArray) (mo v0 : Int) (w : World) (x0 x1 : Int) (nz : Nat) (hb0 : b < w.heap.size) (c0 : w.cell? ⟨b, o, none⟩ = some (.int .u64 x0)) (c1 : w.cell? ⟨b, o + 1, none⟩ = some (.int .u64 x1)) (hA : WordsAt w (some ⟨b, o, none⟩) A) (hC : C ≤ A.length) (hC2 : C = 2) (hTK : A.take C = [x0, x1]) (hcc : A.length ≤ cc) (h1 : 1 ≤ x1) (h64 : x1 ≤ 64) (hz0 : 1 ≤ nz) (hz64 : nz ≤ 64) (R : List (List Int)) (E : Int) (hS : sl = 0 ∧ v0 = 0 ∨ 0 < sl ∧ ∃ sb so, sq = some ⟨sb, so, none⟩ ∧ sb < w.heap.size ∧ w.cell? ⟨sb, so, none⟩ = some (.int .u64 v0)) (hsl : sl ≤ 17592186044154)
    (HSP : Hid (∀ W, Below w.heap.size w W → Calls Tryd.prog 14 #[.int .i64 4, .slice (some ⟨b, o, none⟩) A.length cc] W fun e w' => e = .returned (.tuple #[.agg #[.int .u64 0, .int .i64 0], .agg #[.int .u64 x0, .int .i64 nz], .bool true]) ∧ Below W.heap.size W w'))
    (HAC : Hid (∀ W, Below w.heap.size w W → Calls Tryd.prog 37 #[.agg #[.int .i64 c, .bool cw, .slice p len cap], .int .u64 x0, .int .i64 nz, .bool true] W fun e w' => e = .returned (.int .i64 0) ∧ Below W.heap.size W w'))
    (HMY : Hid (∀ W, Below w.heap.size w W → Calls Tryd.prog 38 #[.agg #[.int .i64 c, .bool cw, .slice p len cap], .slice mp M.length mc] W fun e w' => e = .returned (.bool true) ∧ Below W.heap.size W w'))
    (HTB : Hid (∀ W, Calls Tryd.prog 12 #[.int .i64 4] W fun e w' => ∃ kp kc, e = .returned (.tuple #[.agg #[.string nm, .slice kp C kc, .int .i64 mo], .bool true]) ∧ Below W.heap.size W w'))
    (HCP : Hid (∀ W, Below w.heap.size w W → Calls Tryd.prog 16 #[.slice mp M.length mc] W fun e w' => ∃ mp' mc' Q' C', e = .returned (.slice mp' M.length mc') ∧ Below W.heap.size W w' ∧ MemAt w' mp' Q' C' M ∧ ∀ ad, mp' = some ad → W.heap.size ≤ ad.block))
    (HFL : Hid (∀ W bq bc, Below w.heap.size w W → RowAt W bq (repL v0 nz) → Calls Tryd.prog 39 #[.agg #[.int .i64 c, .bool cw, .slice p len cap], .slice mp M.length mc, .int .u64 x0, .slice bq (repL v0 nz).length bc] W (MemPostN R E W))) :
    Calls Tryd.prog 17 #[.agg #[.int .i64 c, .bool cw, .slice p len cap], .slice mp M.length mc, .int .i64 4, .slice (some ⟨b, o, none⟩) A.length cc, .slice sq sl sc] w (DoPost v0 R 4 [0, x1] [] 0 w) := by
  have HA := Lib.hid hA
  have HC := Lib.hid (And.intro c0 c1)
  have HTK := Lib.hid hTK
  have HC2 := Lib.hid hC2
  have hC01 : 0 < C := by omega
  have hC02 : (0 : Int) < (C : Int) := by omega
  have hAs := hA.small
  have i1 : (1 : Int) < (A.length : Int) := by omega
  have i1' : 1 < A.length := by omega
  have hsl1 := fun W => (slice_head (some ⟨b, o, none⟩) A.length cc C (by omega) W).1
  have hsl2 := fun W => (slice_head (some ⟨b, o, none⟩) A.length cc C (by omega) W).2
  have HPOST : Hid (∀ mp' mc' Q' C' tq tc W, Below w.heap.size w W → MemAt W mp' Q' C' R → C ≤ tc → WordsAt W tq [0, x1] → DoPost v0 R 4 [0, x1] [] 0 w (.returned (.tuple #[.int .u64 v0, .slice mp' R.length mc', .agg #[.int .i64 4, .slice tq C tc, .slice none 0 0], .int .i64 0])) W) :=
    fun mp' mc' Q' C' tq tc W g1 g2 g3 g4 => ⟨mp', mc', Q', C', tq, tc, none, 0, by rw [hC2]; rfl, g1, g2, by rw [hC2] at g3; exact g3, g4, RowAt.nil _ _⟩
  unfold MemPostN at HFL
  rw [repL_length] at HFL
  generalize DoPost v0 R 4 [0, x1] [] 0 w = POST at *
  obtain ⟨i5, h5, g5, s5, b5⟩ := info_parts info5
  have H5 := Lib.hid h5
  have G5 := Lib.hid g5
  have S5 := Lib.hid s5
  have B5 := Lib.hid b5
  clear hA c0 c1 hTK hC2 h5 g5 s5 b5
  rcases hS with ⟨rfl, rfl⟩ | ⟨hs0, sb, so, rfl, hsb, hsc⟩
  · go_enter Tryd.func17, Tryd.ntmps17
    go_wp2_with (first
      | (go_at_call 14; refine (HSP.out _ (below3_two w _ _)).mono ?_; rintro e w1 ⟨rfl, hb⟩; have HW1 := Lib.hid (RdW.first (ls := [.int .i64 c, .bool cw, .slice p len cap]) (s14 := [.int .u64 0, .int .i64 0]) (s15 := [.int .u64 x0, .int .i64 nz]) (t3 := 47) hb); have l0 := HW1.out.lay.cell 0 _ rfl; have l1 := HW1.out.lay.cell 1 _ rfl; have l2 := HW1.out.lay.cell 2 _ rfl; have k0 := HW1.out.rd.cell 0 _ rfl; have k1 := HW1.out.rd.cell 1 _ rfl; have k2 := HW1.out.wr.cell 0 _ rfl; have k3 := HW1.out.wr.cell 1 _ rfl; have d1 := (HW1.out.below.cell (p := ⟨b, o + 1, none⟩) hb0).trans HC.out.2)
      | (go_at_call 37; refine (HAC.out _ HW1.out.below).mono ?_; rintro e w2 ⟨rfl, hb2⟩; have HW2 := Lib.hid (HW1.out.next hb2); have m0 := HW2.out.lay.cell 0 _ rfl; have m1 := HW2.out.lay.cell 1 _ rfl; have m2 := HW2.out.lay.cell 2 _ rfl)
      | (go_at_call 38; refine (HMY.out _ HW2.out.below).mono ?_; rintro e w3 ⟨rfl, hb3⟩; have HW3 := Lib.hid (HW2.out.next hb3); clear hb3)
      | (go_at_call 12; refine (HTB.out _).mono ?_; rintro e w4 ⟨kp, kc, rfl, hb4⟩; have HW4 := Lib.hid ((HW3.out.alloc (.cells #[.int .i64 4, .slice none 0 0, .slice none 0 0] 35)).next hb4); have HB4 := Lib.hid ((Box.new w3 [.int .i64 4, .slice none 0 0, .slice none 0 0] 35 rfl).next hb4); clear hb4))
    have HW5 := Lib.hid (HW4.out.alloc (.cells #[.string nm, .slice kp C kc, .int .i64 mo] 43)).drew
    have HB5 := Lib.hid (HB4.out.alloc (.cells #[.string nm, .slice kp C kc, .int .i64 mo] 43)).drew
    have HBT : Hid (w1.heap.size + 1 < w3.heap.size) := HW3.out.size
    have x0' := HB5.out.cell 0 _ rfl
    have x1' := HB5.out.cell 1 _ rfl
    have x2' := HB5.out.cell 2 _ rfl
    go_region_law (refine step_append_words rfl (.tmp 110) (.tmp 115) rfl rfl (some ⟨b, o, none⟩) A C cc (by simp [Act.eval, Act.put]) (by simp [Act.eval, Act.put]) (HA.out.below HW5.out.below) hC ?_; intro p6 cp W6 hb6 ho6; obtain ⟨g6, rfl, hg6, hz6, hf6⟩ := own_form (by rw [HC2.out]; decide) ho6; have HT7' := RdT.first HW5.out HBT.out HB5.out HA.out hC hb6 ho6; rw [HTK.out] at HT7'; have HT7 := Lib.hid HT7'; have HCPP := Lib.hid (own_cp ho6); have HG := Lib.hid (Nat.lt_of_lt_of_le HB5.out.lt hg6); have HGZ : Hid (g6 < (W6.setCell ⟨w3.heap.size, 1, none⟩ (.slice (some ⟨g6, 0, none⟩) C cp)).heap.size) := lt_set hz6 _ _; have HGF : Hid ((W6.setCell ⟨w3.heap.size, 1, none⟩ (.slice (some ⟨g6, 0, none⟩) C cp)).frozen? ⟨g6, 0, none⟩ = false) := (World.frozen?_setCell ..).trans (hf6 0); have y1 := (HB5.out.next hb6).cell 1 _ rfl; have fy := (HB5.out.next hb6).frozen; clear hb6 ho6 HT7' hg6 hz6 hf6)
    all_goals
      go_wp2_with (go_at_call 16; refine (HCP.out _ HT7.out.rd.below).mono ?_; rintro e w8 ⟨mp8, mc8, Q8, C8, rfl, hb8, hm8, hn8⟩; have HT8 := Lib.hid (HT7.out.next hb8); have HM8 := Lib.hid hm8; have HN8 : Hid (∀ ad, mp8 = some ad → w3.heap.size < ad.block ∧ g6 < ad.block ∧ w.heap.size + 1 < ad.block) := fun ad e => ⟨Nat.lt_of_lt_of_le (Nat.lt_trans HG.out HGZ.out) (hn8 ad e), Nat.lt_of_lt_of_le HGZ.out (hn8 ad e), Nat.lt_of_lt_of_le HT7.out.rd.lt3 (hn8 ad e)⟩; have s0 := word0 HT8.out.words; have sf := (hb8.frozen (p := ⟨g6, 0, none⟩) HGZ.out).trans HGF.out; have HT9 := Lib.hid (HT8.out.nought HG.out); have HM9 := Lib.hid (HM8.out.set1 s0 (fun x => by simp) (fun ad e => Nat.ne_of_gt (HN8.out ad e).2.1) (.int .u64 0)); have u0 := HT8.out.box.cell 0 (.int .i64 4) rfl; have u1 := HT8.out.box.cell 1 (.slice (some ⟨g6, 0, none⟩) C cp) rfl; have u2 := HT8.out.box.cell 2 (.slice none 0 0) rfl; have a0 := HT9.out.rd.lay.cell 0 _ rfl; have a1 := HT9.out.rd.lay.cell 1 _ rfl; have a2 := HT9.out.rd.lay.cell 2 _ rfl; have a3 := HT9.out.rd.rd.cell 0 _ rfl; have a4 := HT9.out.rd.rd.cell 1 _ rfl; have a5 := HT9.out.rd.wr.cell 0 _ rfl; have a6 := HT9.out.rd.wr.cell 1 _ rfl; have hsz9 := HT9.out.rd.lt3; clear hb8 hm8 hn8)
      go_loopw [22, 23] (fun v i wx => ∃ k : Nat, k ≤ nz ∧ i = .int .i64 k ∧ Hid (Below (w8.setCell ⟨g6, 0, none⟩ (.int .u64 0)).heap.size (w8.setCell ⟨g6, 0, none⟩ (.int .u64 0)) wx) ∧ Hid (wx.ownsRow w8.heap.size 5 1 v k (bytesV (repL 0 k)))) (fun _ i _ => nz - (intOf i).toNat)
      case atStart => exact ⟨0, Nat.zero_le _, rfl, Below.refl _ _, ⟨rfl, .inl ⟨rfl, rfl⟩⟩⟩
      case round =>
        obtain ⟨k, hk, rfl, HB, HOWN⟩ := hrel
        have HTK' := Lib.hid (HT9.out.next HB.out)
        have n1 := HTK'.out.rd.wr.cell 1 _ rfl
        have hbs := HB.out.size
        have hbs8 : w8.heap.size ≤ wr.heap.size := by simpa [World.setCell] using hbs
        by_cases hlt : k < nz
        · have ht := tmod8 k
          have hm : k % 8 < 8 := by omega
          have HSN : Hid (bytesV (repL 0 (k + 1)) = bytesV (repL 0 k) ++ [.int .u8 0]) := by show bytesV _ = _; rw [repL_snoc]; simp
          generalize k % 8 = r at *
          go_wp2_with (at_builtin; refine wpList_append_own _ rfl (.tmp 148) (.tmp 156) 33 rfl w8.heap.size 5 i5 _ 1 1 Tryd.underlying33 H5.out G5.out S5.out B5.out rfl (by decide) _ _ _ rfl (HOWN.out.alloc _) ⟨wr.heap.size, 0, none⟩ 1 1 [.int .u8 0] rfl rfl ?c1 ?c2 ?c3 ?c4 ?c5 ?_)
          case c1 => exact cell_one_new _ _ _
          case c2 => simp [Value.oneCell']
          case c3 => simp only [maxLen]; omega
          case c4 => omega
          case c5 => exact Nat.le_trans hbs8 (by simp)
          intro v' w11 hown' hg _
          have HB11 := Lib.hid ((HB.out.trans ((Below.refl _ wr).alloc hbs (.cells #[.int .u8 0] 5))).grown hg (Nat.le_trans hbs (by simp)) (fun k hk => by have := own_ge HOWN.out k hk; simpa [World.setCell] using this))
          have HO11 := Lib.hid hown'
          clear hown' hg
          go_wp2
          go_roundw
          case rel =>
            refine ⟨k + 1, by omega, by go_num, HB11.out, ?_⟩
            rw [HSN.out]
            exact HO11.out
          case measure => simp [intOf]; omega
        · have hkn : k = nz := by omega
          subst hkn
          obtain ⟨g9, c9, rfl, hrow⟩ := row_of_owns (xs := repL 0 k) (by rw [repL_length]; omega) (by rw [repL_length]; omega) (fun j hj => by rw [repL_length] at hj; rw [repL_getD 0 hj]; exact putB_bd 0 _) (by rw [repL_length]; exact HOWN.out)
          have HROW := Lib.hid hrow
          rw [repL_length]
          have e0 := HTK'.out.rd.lay.cell 0 _ rfl
          have e1 := HTK'.out.rd.lay.cell 1 _ rfl
          have e2 := HTK'.out.rd.lay.cell 2 _ rfl
          have e3 := HTK'.out.rd.wr.cell 0 _ rfl
          clear hrow
          go_wp2_with (go_at_call 39; refine (HFL.out _ _ _ HTK'.out.rd.below HROW.out).mono ?_; rintro e w12 ⟨mp12, mc12, Q12, C12, rfl, hb12, hm12, hn12, _⟩; have HT12 := Lib.hid (HTK'.out.next hb12); have HM12 := Lib.hid hm12; have HN12 : Hid (∀ ad, mp12 = some ad → w.heap.size + 1 < ad.block) := fun ad e => Nat.lt_of_lt_of_le HTK'.out.rd.lt3 (hn12 ad e); have t0 := HT12.out.box.cell 0 (.int .i64 4) rfl; have t1 := HT12.out.box.cell 1 (.slice (some ⟨g6, 0, none⟩) C cp) rfl; have t2 := HT12.out.box.cell 2 (.slice none 0 0) rfl; have r0 := HT12.out.rd.res.cell 0 (.int .i64 0) rfl; have r1 := HT12.out.rd.res.cell 1 (.slice none 0 0) rfl; have r2 := HT12.out.rd.res.cell 2 (.slice none 0 0) rfl; have fz := HT12.out.rd.res.frozen; clear hb12 hm12 hn12)
          go_region
          all_goals
            go_wp2
            have HE := HPOST.out mp12 mc12 Q12 C12 (some ⟨g6, 0, none⟩) cp _ (below_set3 HT12.out.rd.below (Nat.le_succ _) (.int .i64 4) (.slice (some ⟨g6, 0, none⟩) C cp) (.slice none 0 0)).drew ((HM12.out.set3 HT12.out.rd.res.cell HN12.out _ _ _).below (Below.refl _ _).drew) HCPP.out ((HT12.out.words.set3 HT12.out.rd.res.cell _ _ _).drew)
            refine bodyPost_ret (v := .tuple #[.int .u64 0, .slice mp12 R.length mc12, .agg #[.int .i64 4, .slice (some ⟨g6, 0, none⟩) C cp, .slice none 0 0], .int .i64 0]) (by simp [results, Tryd.results17, go_sem, r0, r1, r2]) rfl HE
  · have HSC := Lib.hid hsc
    have hs1 : (0 : Int) < (sl : Int) := by omega
    clear hsc
    go_enter Tryd.func17, Tryd.ntmps17
    go_wp2_with (first
      | (go_at_call 14; refine (HSP.out _ (below3_two w _ _)).mono ?_; rintro e w1 ⟨rfl, hb⟩; have HW1 := Lib.hid (RdW.first (ls := [.int .i64 c, .bool cw, .slice p len cap]) (s14 := [.int .u64 0, .int .i64 0]) (s15 := [.int .u64 x0, .int .i64 nz]) (t3 := 47) hb); have l0 := HW1.out.lay.cell 0 _ rfl; have l1 := HW1.out.lay.cell 1 _ rfl; have l2 := HW1.out.lay.cell 2 _ rfl; have k0 := HW1.out.rd.cell 0 _ rfl; have k1 := HW1.out.rd.cell 1 _ rfl; have k2 := HW1.out.wr.cell 0 _ rfl; have k3 := HW1.out.wr.cell 1 _ rfl; have d1 := (HW1.out.below.cell (p := ⟨b, o + 1, none⟩) hb0).trans HC.out.2)
      | (go_at_call 37; refine (HAC.out _ HW1.out.below).mono ?_; rintro e w2 ⟨rfl, hb2⟩; have HW2 := Lib.hid (HW1.out.next hb2); have m0 := HW2.out.lay.cell 0 _ rfl; have m1 := HW2.out.lay.cell 1 _ rfl; have m2 := HW2.out.lay.cell 2 _ rfl)
      | (go_at_call 38; refine (HMY.out _ HW2.out.below).mono ?_; rintro e w3 ⟨rfl, hb3⟩; have HW3 := Lib.hid (HW2.out.next hb3); have d0 := (HW3.out.below.cell (p := ⟨sb, so, none⟩) hsb).trans HSC.out; clear hb3)
      | (go_at_call 12; refine (HTB.out _).mono ?_; rintro e w4 ⟨kp, kc, rfl, hb4⟩; have HW4 := Lib.hid ((HW3.out.alloc (.cells #[.int .i64 4, .slice none 0 0, .slice none 0 0] 35)).next hb4); have HB4 := Lib.hid ((Box.new w3 [.int .i64 4, .slice none 0 0, .slice none 0 0] 35 rfl).next hb4); clear hb4))
    have HW5 := Lib.hid (HW4.out.alloc (.cells #[.string nm, .slice kp C kc, .int .i64 mo] 43)).drew
    have HB5 := Lib.hid (HB4.out.alloc (.cells #[.string nm, .slice kp C kc, .int .i64 mo] 43)).drew
    have HBT : Hid (w1.heap.size + 1 < w3.heap.size) := HW3.out.size
    have x0' := HB5.out.cell 0 _ rfl
    have x1' := HB5.out.cell 1 _ rfl
    have x2' := HB5.out.cell 2 _ rfl
    go_region_law (refine step_append_words rfl (.tmp 110) (.tmp 115) rfl rfl (some ⟨b, o, none⟩) A C cc (by simp [Act.eval, Act.put]) (by simp [Act.eval, Act.put]) (HA.out.below HW5.out.below) hC ?_; intro p6 cp W6 hb6 ho6; obtain ⟨g6, rfl, hg6, hz6, hf6⟩ := own_form (by rw [HC2.out]; decide) ho6; have HT7' := RdT.first HW5.out HBT.out HB5.out HA.out hC hb6 ho6; rw [HTK.out] at HT7'; have HT7 := Lib.hid HT7'; have HCPP := Lib.hid (own_cp ho6); have HG := Lib.hid (Nat.lt_of_lt_of_le HB5.out.lt hg6); have HGZ : Hid (g6 < (W6.setCell ⟨w3.heap.size, 1, none⟩ (.slice (some ⟨g6, 0, none⟩) C cp)).heap.size) := lt_set hz6 _ _; have HGF : Hid ((W6.setCell ⟨w3.heap.size, 1, none⟩ (.slice (some ⟨g6, 0, none⟩) C cp)).frozen? ⟨g6, 0, none⟩ = false) := (World.frozen?_setCell ..).trans (hf6 0); have y1 := (HB5.out.next hb6).cell 1 _ rfl; have fy := (HB5.out.next hb6).frozen; clear hb6 ho6 HT7' hg6 hz6 hf6)
    all_goals
      go_wp2_with (go_at_call 16; refine (HCP.out _ HT7.out.rd.below).mono ?_; rintro e w8 ⟨mp8, mc8, Q8, C8, rfl, hb8, hm8, hn8⟩; have HT8 := Lib.hid (HT7.out.next hb8); have HM8 := Lib.hid hm8; have HN8 : Hid (∀ ad, mp8 = some ad → w3.heap.size < ad.block ∧ g6 < ad.block ∧ w.heap.size + 1 < ad.block) := fun ad e => ⟨Nat.lt_of_lt_of_le (Nat.lt_trans HG.out HGZ.out) (hn8 ad e), Nat.lt_of_lt_of_le HGZ.out (hn8 ad e), Nat.lt_of_lt_of_le HT7.out.rd.lt3 (hn8 ad e)⟩; have s0 := word0 HT8.out.words; have sf := (hb8.frozen (p := ⟨g6, 0, none⟩) HGZ.out).trans HGF.out; have HT9 := Lib.hid (HT8.out.nought HG.out); have HM9 := Lib.hid (HM8.out.set1 s0 (fun x => by simp) (fun ad e => Nat.ne_of_gt (HN8.out ad e).2.1) (.int .u64 0)); have u0 := HT8.out.box.cell 0 (.int .i64 4) rfl; have u1 := HT8.out.box.cell 1 (.slice (some ⟨g6, 0, none⟩) C cp) rfl; have u2 := HT8.out.box.cell 2 (.slice none 0 0) rfl; have a0 := HT9.out.rd.lay.cell 0 _ rfl; have a1 := HT9.out.rd.lay.cell 1 _ rfl; have a2 := HT9.out.rd.lay.cell 2 _ rfl; have a3 := HT9.out.rd.rd.cell 0 _ rfl; have a4 := HT9.out.rd.rd.cell 1 _ rfl; have a5 := HT9.out.rd.wr.cell 0 _ rfl; have a6 := HT9.out.rd.wr.cell 1 _ rfl; have hsz9 := HT9.out.rd.lt3; clear hb8 hm8 hn8)
      go_loopw [22, 23] (fun v i wx => ∃ k : Nat, k ≤ nz ∧ i = .int .i64 k ∧ Hid (Below (w8.setCell ⟨g6, 0, none⟩ (.int .u64 0)).heap.size (w8.setCell ⟨g6, 0, none⟩ (.int .u64 0)) wx) ∧ Hid (wx.ownsRow w8.heap.size 5 1 v k (bytesV (repL v0 k)))) (fun _ i _ => nz - (intOf i).toNat)
      case atStart => exact ⟨0, Nat.zero_le _, rfl, Below.refl _ _, ⟨rfl, .inl ⟨rfl, rfl⟩⟩⟩
      case round =>
        obtain ⟨k, hk, rfl, HB, HOWN⟩ := hrel
        have HTK' := Lib.hid (HT9.out.next HB.out)
        have n1 := HTK'.out.rd.wr.cell 1 _ rfl
        have hbs := HB.out.size
        have hbs8 : w8.heap.size ≤ wr.heap.size := by simpa [World.setCell] using hbs
        by_cases hlt : k < nz
        · have ht := tmod8 k
          have hm : k % 8 < 8 := by omega
          have HSN : Hid (bytesV (repL v0 (k + 1)) = bytesV (repL v0 k) ++ [.int .u8 (v0 / 2 ^ (8 * (k % 8)) % 256)]) := repL_snoc v0 k
          generalize k % 8 = r at *
          go_wp2_with (at_builtin; refine wpList_append_own _ rfl (.tmp 148) (.tmp 156) 33 rfl w8.heap.size 5 i5 _ 1 1 Tryd.underlying33 H5.out G5.out S5.out B5.out rfl (by decide) _ _ _ rfl (HOWN.out.alloc _) ⟨wr.heap.size, 0, none⟩ 1 1 [.int .u8 (v0 / 2 ^ (8 * r) % 256)] rfl rfl ?c1 ?c2 ?c3 ?c4 ?c5 ?_)
          case c1 => exact cell_one_new _ _ _
          case c2 => simp [Value.oneCell']
          case c3 => simp only [maxLen]; omega
          case c4 => omega
          case c5 => exact Nat.le_trans hbs8 (by simp)
          intro v' w11 hown' hg _
          have HB11 := Lib.hid ((HB.out.trans ((Below.refl _ wr).alloc hbs (.cells #[.int .u8 (v0 / 2 ^ (8 * r) % 256)] 5))).grown hg (Nat.le_trans hbs (by simp)) (fun k hk => by have := own_ge HOWN.out k hk; simpa [World.setCell] using this))
          have HO11 := Lib.hid hown'
          clear hown' hg
          go_wp2
          go_roundw
          case rel =>
            refine ⟨k + 1, by omega, by go_num, HB11.out, ?_⟩
            rw [HSN.out]
            exact HO11.out
          case measure => simp [intOf]; omega
        · have hkn : k = nz := by omega
          subst hkn
          obtain ⟨g9, c9, rfl, hrow⟩ := row_of_owns (xs := repL v0 k) (by rw [repL_length]; omega) (by rw [repL_length]; omega) (fun j hj => by rw [repL_length] at hj; rw [repL_getD v0 hj]; exact putB_bd v0 _) (by rw [repL_length]; exact HOWN.out)
          have HROW := Lib.hid hrow
          rw [repL_length]
          have e0 := HTK'.out.rd.lay.cell 0 _ rfl
          have e1 := HTK'.out.rd.lay.cell 1 _ rfl
          have e2 := HTK'.out.rd.lay.cell 2 _ rfl
          have e3 := HTK'.out.rd.wr.cell 0 _ rfl
          clear hrow
          go_wp2_with (go_at_call 39; refine (HFL.out _ _ _ HTK'.out.rd.below HROW.out).mono ?_; rintro e w12 ⟨mp12, mc12, Q12, C12, rfl, hb12, hm12, hn12, _⟩; have HT12 := Lib.hid (HTK'.out.next hb12); have HM12 := Lib.hid hm12; have HN12 : Hid (∀ ad, mp12 = some ad → w.heap.size + 1 < ad.block) := fun ad e => Nat.lt_of_lt_of_le HTK'.out.rd.lt3 (hn12 ad e); have t0 := HT12.out.box.cell 0 (.int .i64 4) rfl; have t1 := HT12.out.box.cell 1 (.slice (some ⟨g6, 0, none⟩) C cp) rfl; have t2 := HT12.out.box.cell 2 (.slice none 0 0) rfl; have r0 := HT12.out.rd.res.cell 0 (.int .i64 0) rfl; have r1 := HT12.out.rd.res.cell 1 (.slice none 0 0) rfl; have r2 := HT12.out.rd.res.cell 2 (.slice none 0 0) rfl; have fz := HT12.out.rd.res.frozen; clear hb12 hm12 hn12)
          go_region
          all_goals
            go_wp2
            have HE := HPOST.out mp12 mc12 Q12 C12 (some ⟨g6, 0, none⟩) cp _ (below_set3 HT12.out.rd.below (Nat.le_succ _) (.int .i64 4) (.slice (some ⟨g6, 0, none⟩) C cp) (.slice none 0 0)).drew ((HM12.out.set3 HT12.out.rd.res.cell HN12.out _ _ _).below (Below.refl _ _).drew) HCPP.out ((HT12.out.words.set3 HT12.out.rd.res.cell _ _ _).drew)
            refine bodyPost_ret (v := .tuple #[.int .u64 v0, .slice mp12 R.length mc12, .agg #[.int .i64 4, .slice (some ⟨g6, 0, none⟩) C cp, .slice none 0 0], .int .i64 0]) (by simp [results, Tryd.results17, go_sem, r0, r1, r2]) rfl HE
end Go.Proofs.YthckkdkijajadaaDoor
