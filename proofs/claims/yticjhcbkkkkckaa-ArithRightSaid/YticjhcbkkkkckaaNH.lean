/- Known bits: the document's own product. -/
import Derived.Test.YticjhcbkkkkckaaNG
import Derived.Test.YticjhcbkkkkckaaWF
namespace Go.Proofs.Yticjhcbkkkkckaa
open Go.RowKit
attribute [local go_sem] b_and b_or b_xor b_andNot b_low b_top b_most b_signed b_unsigned b_zero b_eq s_eq b_nzero b_neq s_neq b_max b_min s_max s_min
attribute [local go_sem ↓] Go.wp_at_zero Go.wp_at_succ
attribute [local go_sem] b_add b_sub b_mul b_neg b_two b_half b_half2

/-- a word's lowest bit -/
def bit0B (x : B) : Bool := x.getLsbD 0
theorem odd_bit (x : B) : ((U x).tmod 2 == 1) = bit0B x := by
  unfold bit0B
  rw [Int.tmod_eq_emod_of_nonneg (U_nn x), BitVec.getLsbD, Nat.testBit_zero, Bool.eq_iff_iff, beq_iff_eq, decide_eq_true_iff]
  unfold U
  omega
theorem odd_bit2 (x : B) : (U x % 2 == 1) = bit0B x := by
  unfold bit0B
  rw [BitVec.getLsbD, Nat.testBit_zero, Bool.eq_iff_iff, beq_iff_eq, decide_eq_true_iff]
  unfold U
  omega
attribute [local go_sem] odd_bit odd_bit2
def tv (t : Tn) : List Value := [.int .u64 (U t.v), .int .u64 (U t.m)]
/-- the state of the loop: both operands, the answer's place, the sum so far -/
structure MS (n : Nat) (a b q : Tn) (w W : World) : Prop where
  low : Below n w W
  fa : Box W n (tv a)
  fb : Box W (n + 1) (tv b)
  fr : Box W (n + 1 + 1) (tv tzero)
  fq : Box W (n + 1 + 1 + 1) (tv q)
theorem MS.next {n : Nat} {a b q : Tn} {w W W' : World} (h : MS n a b q w W) (hb : Below W.heap.size W W') : MS n a b q w W' :=
  ⟨h.low.trans (hb.mono (Nat.le_of_lt h.fa.lt)), h.fa.next hb, h.fb.next hb, h.fr.next hb, h.fq.next hb⟩
theorem Box.two {W : World} {n : Nat} {v0 v1 : Value} (h : Box W n [v0, v1]) : (W.cell? ⟨n, 0, none⟩ = some v0 ∧ W.cell? ⟨n, 1, none⟩ = some v1) ∧ (∀ i, W.frozen? ⟨n, i, none⟩ = false) ∧ n < W.heap.size :=
  ⟨⟨h.cell 0 _ rfl, h.cell 1 _ rfl⟩, h.frozen, h.lt⟩
theorem Box.set2 {W : World} {n : Nat} {v0 v1 u0 u1 : Value} (h : Box W n [v0, v1]) : Box ((W.setCell ⟨n, 0, none⟩ u0).setCell ⟨n, 1, none⟩ u1) n [u0, u1] :=
  (h.set (i := 0) (by simp) u0).set (i := 1) (by simp) u1
/-- so many steps are left -/
def left (f : Nat) (a b q r : Tn) : Prop := tmulQ f a b q = r ∧ a.v.toNat < 2 ^ f ∧ a.m.toNat < 2 ^ f
def stepQ (a b q : Tn) : Tn := if bit0B a.v = true then tadd q ⟨0#64, b.m⟩ else if bit0B a.m = true then tadd q ⟨0#64, b.v ||| b.m⟩ else q
def halfA (a : Tn) : Tn := ⟨a.v >>> 1, a.m >>> 1⟩
def dblB (b : Tn) : Tn := ⟨b.v * 2#64, b.m * 2#64⟩
theorem left_step {f : Nat} {a b q r : Tn} (h : left f a b q r) (h0 : ¬ (a.v = 0#64 ∧ a.m = 0#64)) : ∃ f', left f' (halfA a) (dblB b) (stepQ a b q) r := by
  obtain ⟨h1, h2, h3⟩ := h
  cases f with
  | zero => exact absurd ⟨BitVec.eq_of_toNat_eq (by simpa using h2), BitVec.eq_of_toNat_eq (by simpa using h3)⟩ h0
  | succ f =>
    refine ⟨f, ?_, ?_, ?_⟩
    · rw [← h1, tmulQ, if_neg h0]
      unfold halfA dblB stepQ bit0B
      rw [← shl_one, ← shl_one]
    · show (a.v >>> 1).toNat < _
      rw [shr_nat]; rw [Nat.pow_succ] at h2; omega
    · show (a.m >>> 1).toNat < _
      rw [shr_nat]; rw [Nat.pow_succ] at h3; omega
theorem left_end {f : Nat} {a b q r : Tn} (h : left f a b q r) (h1 : a.v = 0#64) (h2 : a.m = 0#64) : q = r := by
  obtain ⟨h, _, _⟩ := h
  rw [← h]
  cases f with
  | zero => rfl
  | succ f => rw [tmulQ, if_pos ⟨h1, h2⟩]
def cellU (W : World) (n i : Nat) : Nat := match W.cell? ⟨n, i, none⟩ with | some (.int _ k) => k.toNat | _ => 0
theorem cellU_is {W : World} {n i : Nat} {x : B} (h : W.cell? ⟨n, i, none⟩ = some (.int .u64 (U x))) : cellU W n i = x.toNat := by
  unfold cellU; rw [h]; exact Int.toNat_natCast _
theorem MS.start (w : World) (a b : Tn) (t1 t2 t3 t4 : TypeId) : MS w.heap.size a b ⟨0#64, 0#64⟩ w ((((w.alloc (.cells #[.int .u64 (U a.v), .int .u64 (U a.m)] t1)).alloc (.cells #[.int .u64 (U b.v), .int .u64 (U b.m)] t2)).alloc (.cells #[.int .u64 0, .int .u64 0] t3)).alloc (.cells #[.int .u64 0, .int .u64 0] t4)) :=
  ⟨b3.alloc (by simp; omega) _, (((Box.new w (tv a) t1 rfl).alloc _).alloc _).alloc _, ((Box.new (w.alloc _) (tv b) t2 (by simp)).alloc _).alloc _, (Box.new ((w.alloc _).alloc _) (tv tzero) t3 (by simp)).alloc _, Box.new (((w.alloc _).alloc _).alloc _) (tv ⟨0#64, 0#64⟩) t4 (by simp)⟩
theorem MS.ab {n : Nat} {a b q : Tn} {w W : World} (h : MS n a b q w W) :
    MS n (halfA a) (dblB b) q w ((((W.setCell ⟨n, 0, none⟩ (.int .u64 (U (a.v >>> 1)))).setCell ⟨n, 1, none⟩ (.int .u64 (U (a.m >>> 1)))).setCell ⟨n + 1, 0, none⟩ (.int .u64 (U (b.v * 2#64)))).setCell ⟨n + 1, 1, none⟩ (.int .u64 (U (b.m * 2#64)))) :=
  ⟨(((h.low.setCell (by show n ≤ n; omega) _).setCell (by show n ≤ n; omega) _).setCell (by show n ≤ n + 1; omega) _).setCell (by show n ≤ n + 1; omega) _,
   (h.fa.set2.far2 (by omega)), (h.fb.far2 (by omega)).set2, (h.fr.far2 (by omega)).far2 (by omega), (h.fq.far2 (by omega)).far2 (by omega)⟩
theorem MS.q {n : Nat} {a b q : Tn} {w W : World} (h : MS n a b q w W) (p : Tn) :
    MS n a b p w ((W.setCell ⟨n + 1 + 1 + 1, 0, none⟩ (.int .u64 (U p.v))).setCell ⟨n + 1 + 1 + 1, 1, none⟩ (.int .u64 (U p.m))) :=
  ⟨(h.low.setCell (by show n ≤ n + 1 + 1 + 1; omega) _).setCell (by show n ≤ n + 1 + 1 + 1; omega) _, h.fa.far2 (by omega), h.fb.far2 (by omega), h.fr.far2 (by omega), h.fq.set2⟩
theorem MS.facts {n : Nat} {a b q : Tn} {w W : World} (h : MS n a b q w W) :
    ((W.cell? ⟨n, 0, none⟩ = some (.int .u64 (U a.v)) ∧ W.cell? ⟨n, 1, none⟩ = some (.int .u64 (U a.m))) ∧ (∀ i, W.frozen? ⟨n, i, none⟩ = false) ∧ n < W.heap.size) ∧
    ((W.cell? ⟨n + 1, 0, none⟩ = some (.int .u64 (U b.v)) ∧ W.cell? ⟨n + 1, 1, none⟩ = some (.int .u64 (U b.m))) ∧ (∀ i, W.frozen? ⟨n + 1, i, none⟩ = false) ∧ n + 1 < W.heap.size) ∧
    ((W.cell? ⟨n + 1 + 1, 0, none⟩ = some (.int .u64 0) ∧ W.cell? ⟨n + 1 + 1, 1, none⟩ = some (.int .u64 0)) ∧ (∀ i, W.frozen? ⟨n + 1 + 1, i, none⟩ = false) ∧ n + 1 + 1 < W.heap.size) ∧
    ((W.cell? ⟨n + 1 + 1 + 1, 0, none⟩ = some (.int .u64 (U q.v)) ∧ W.cell? ⟨n + 1 + 1 + 1, 1, none⟩ = some (.int .u64 (U q.m))) ∧ (∀ i, W.frozen? ⟨n + 1 + 1 + 1, i, none⟩ = false) ∧ n + 1 + 1 + 1 < W.heap.size) :=
  ⟨h.fa.two, h.fb.two, h.fr.two, h.fq.two⟩
theorem less_of {n : Nat} {a b q b' q' : Tn} {w W W' : World} (h : MS n a b q w W) (h' : MS n (halfA a) b' q' w W') (h0 : ¬ (a.v = 0#64 ∧ a.m = 0#64)) : cellU W' n 0 + cellU W' n 1 < cellU W n 0 + cellU W n 1 := by
  rw [cellU_is h.facts.1.1.1, cellU_is h.facts.1.1.2, cellU_is h'.facts.1.1.1, cellU_is h'.facts.1.1.2]
  show (a.v >>> 1).toNat + (a.m >>> 1).toNat < _
  rw [shr_nat, shr_nat]
  have : a.v.toNat ≠ 0 ∨ a.m.toNat ≠ 0 := by
    by_cases e : a.v.toNat = 0
    · right; intro e2; exact h0 ⟨BitVec.eq_of_toNat_eq e, BitVec.eq_of_toNat_eq e2⟩
    · exact .inl e
  omega
theorem add_m (q : Tn) (m : B) (W : World) : Calls Try.prog 85 #[.agg #[.int .u64 (U q.v), .int .u64 (U q.m)], .agg #[.int .u64 0, .int .u64 (U m)]] W fun e w' => e = .returned (.agg #[.int .u64 (U (tadd q ⟨0#64, m⟩).v), .int .u64 (U (tadd q ⟨0#64, m⟩).m)]) ∧ Below W.heap.size W w' := rtadd_any q ⟨0#64, m⟩ W
theorem add_v (v : B) (q : Tn) (W : World) : Calls Try.prog 85 #[.agg #[.int .u64 (U v), .int .u64 0], .agg #[.int .u64 (U q.v), .int .u64 (U q.m)]] W fun e w' => e = .returned (.agg #[.int .u64 (U (tadd ⟨v, 0#64⟩ q).v), .int .u64 (U (tadd ⟨v, 0#64⟩ q).m)]) ∧ Below W.heap.size W w' := rtadd_any ⟨v, 0#64⟩ q W
set_option maxRecDepth 100000 in
set_option maxHeartbeats 1000000 in
theorem rtmul_any (a b : Tn) (w : World) : Calls Try.prog 89 #[.agg #[.int .u64 (U a.v), .int .u64 (U a.m)], .agg #[.int .u64 (U b.v), .int .u64 (U b.m)]] w fun e w' => e = .returned (.agg #[.int .u64 (U (tmul a b).v), .int .u64 (U (tmul a b).m)]) ∧ Below w.heap.size w w' := by
  unfold tmul
  have HL : Hid (left 64 a b ⟨0#64, 0#64⟩ (tmulQ 64 a b ⟨0#64, 0#64⟩)) := Lib.hid ⟨rfl, a.v.isLt, a.m.isLt⟩
  have HZ := Lib.hid (fun W => add_v (a.v * b.v) (tmulQ 64 a b ⟨0#64, 0#64⟩) W)
  generalize tmulQ 64 a b ⟨0#64, 0#64⟩ = r at *
  generalize tadd ⟨a.v * b.v, 0#64⟩ r = z at *
  go_enter Try.func89, Try.ntmps89
  go_wp2_with fail
  go_loopw [] (fun wr => ∃ (f : Nat) (a' b' q : Tn), left f a' b' q r ∧ MS w.heap.size a' b' q w wr) (fun wr => cellU wr w.heap.size 0 + cellU wr w.heap.size 1)
  case atStart => exact ⟨64, a, b, _, HL.out, MS.start w a b _ _ _ _⟩
  case round =>
    obtain ⟨f, a', b', q, hl, hm⟩ := hrel
    obtain ⟨⟨p1, p2, p3⟩, ⟨q1, q2, q3⟩, ⟨r1, r2, r3⟩, ⟨s1, s2, s3⟩⟩ := hm.facts
    by_cases h0 : a'.v = 0#64 ∧ a'.m = 0#64
    · obtain rfl := left_end hl h0.1 h0.2
      have c1 : (a'.v == 0#64) = true := by simp [h0.1]
      have c2 : (a'.m == 0#64) = true := by simp [h0.2]
      have HN := Lib.hid hm
      clear hl hm h0
      go_wp2_with (go_at_call 85; (with_reducible refine (HZ.out _).mono ?_); rintro e w1 ⟨rfl, hb⟩; have H' := Lib.hid (HN.out.next hb); have F := H'.out.facts.2.2.1; clear hb p1 p2 p3 q1 q2 q3 r1 r2 r3 s1 s2 s3; obtain ⟨r1, r2, r3⟩ := F)
      exact bodyPost_ret (v := .agg #[.int .u64 (U z.v), .int .u64 (U z.m)]) (by simp [results, Try.results89, go_sem, r1]) rfl ⟨rfl, (H'.out.low.setCell (by simp; omega) _).setCell (by simp; omega) _⟩
    · obtain ⟨f', hs⟩ := left_step hl h0
      have HS := Lib.hid hs
      have H0 := Lib.hid h0
      have HN := Lib.hid hm
      have HA := Lib.hid (fun m W => add_m q m W)
      unfold stepQ at HS
      have hc : ((a'.v == 0#64) = false) ∨ ((a'.v == 0#64) = true ∧ (a'.m == 0#64) = false) := by
        cases e : a'.v == 0#64 with
        | false => exact .inl rfl
        | true => right; refine ⟨rfl, ?_⟩; cases e2 : a'.m == 0#64 with
          | false => rfl
          | true => exact absurd ⟨by simpa using e, by simpa using e2⟩ h0
      clear hl hm h0 hs
      rcases hc with hc | ⟨hc, hd⟩
      all_goals
        cases b0 : bit0B a'.v with
        | true =>
          rw [b0, if_pos rfl] at HS
          go_wp2_with (go_at_call 85; (with_reducible refine (HA.out _ _).mono ?_); rintro e w1 ⟨rfl, hb⟩; have H' := Lib.hid (HN.out.next hb); have F := H'.out.facts; clear hb p1 p2 p3 q1 q2 q3 r1 r2 r3 s1 s2 s3; obtain ⟨⟨p1, p2, p3⟩, ⟨q1, q2, q3⟩, ⟨r1, r2, r3⟩, ⟨s1, s2, s3⟩⟩ := F)
          go_roundw
          case rel => exact ⟨f', halfA a', dblB b', _, HS.out, (H'.out.q (tadd q ⟨0#64, b'.m⟩)).ab⟩
          case measure => exact less_of HN.out (H'.out.q (tadd q ⟨0#64, b'.m⟩)).ab H0.out
        | false =>
          rw [b0, if_neg (by simp)] at HS
          cases b1 : bit0B a'.m with
          | true =>
            rw [b1, if_pos rfl] at HS
            go_wp2_with (go_at_call 85; (with_reducible refine (HA.out _ _).mono ?_); rintro e w1 ⟨rfl, hb⟩; have H' := Lib.hid (HN.out.next hb); have F := H'.out.facts; clear hb p1 p2 p3 q1 q2 q3 r1 r2 r3 s1 s2 s3; obtain ⟨⟨p1, p2, p3⟩, ⟨q1, q2, q3⟩, ⟨r1, r2, r3⟩, ⟨s1, s2, s3⟩⟩ := F)
            go_roundw
            case rel => exact ⟨f', halfA a', dblB b', _, HS.out, (H'.out.q (tadd q ⟨0#64, b'.v ||| b'.m⟩)).ab⟩
            case measure => exact less_of HN.out (H'.out.q (tadd q ⟨0#64, b'.v ||| b'.m⟩)).ab H0.out
          | false =>
            rw [b1, if_neg (by simp)] at HS
            go_wp2_with fail
            go_roundw
            case rel => exact ⟨f', halfA a', dblB b', _, HS.out, HN.out.ab⟩
            case measure => exact less_of HN.out HN.out.ab H0.out
end Go.Proofs.Yticjhcbkkkkckaa
