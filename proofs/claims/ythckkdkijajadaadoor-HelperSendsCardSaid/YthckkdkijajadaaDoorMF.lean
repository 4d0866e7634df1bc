/- Contracts of Store and Fill. -/
import Derived.Test.YthckkdkijajadaaDoorME
import Derived.Deep.RegionWith
import Derived.Deep.RegionHeld3

/- Contracts of Store and Fill. -/
namespace Go.Proofs.YthckkdkijajadaaDoor
open Go.RowKit M

theorem write_bad (s : Nat → Addr) (c : Int) (cw : Bool) (p : Option Addr) (len cap : Nat) (ms : List Ar) (mp : Option Addr) (mc : Nat) (Q : Nat → Option Addr) (C : Nat → Nat) (M : List (List Int)) (a : Int) (bq : Option Addr) (bn bc : Nat) (w : World) (hs : Sent w s) (hm : MapsAt w p len ms) (hM : MemAt w mp Q C M)
    (ha : 0 ≤ a ∧ a < 18446744073709551616) (k : Nat) (hk : rdK c cw ms len M a bn true = k) (hk4 : k < 4) :
    Calls Tryd.prog 59 #[.agg #[.int .i64 c, .bool cw, .slice p len cap], .slice mp M.length mc, .int .u64 a, .slice bq bn bc] w fun e w' =>
      e = .returned (.tuple #[.slice none 0 0, flt s a bn k]) ∧ Below w.heap.size w w' := by
  unfold rdK at hk
  split at hk
  · exact write_err s c cw p len cap ms mp mc Q C M a bq bn bc w hs hm hM ha ‹_› k hk hk4
  · rename_i hn
    subst hk; exact write_stray s c cw p len cap ms mp mc Q C M a bq bn bc w hs hm hM (Bool.eq_false_iff.2 hn)
theorem write_good (s : Nat → Addr) (c : Int) (cw : Bool) (p : Option Addr) (len cap : Nat) (ms : List Ar) (mp : Option Addr) (mc : Nat) (Q : Nat → Option Addr) (C : Nat → Nat) (M : List (List Int)) (a : Int) (bq : Option Addr) (bs : List Int) (bc : Nat) (w : World) (hs : Sent w s) (hm : MapsAt w p len ms) (hM : MemAt w mp Q C M)
    (hbs : RowAt w bq bs) (ha : 0 ≤ a ∧ a < 18446744073709551616) (hk : rdK c cw ms len M a bs.length true = 4) :
    Calls Tryd.prog 59 #[.agg #[.int .i64 c, .bool cw, .slice p len cap], .slice mp M.length mc, .int .u64 a, .slice bq bs.length bc] w (WritePost M a bs w) :=
  write_ok s c cw p len cap ms mp mc Q C M a bq bs bc w hs hm hM hbs ha (rdK_ok hk).1 (rdK_ok hk).2
theorem write_goodN (s : Nat → Addr) (c : Int) (cw : Bool) (p : Option Addr) (len cap : Nat) (ms : List Ar) (mp : Option Addr) (mc : Nat) (Q : Nat → Option Addr) (C : Nat → Nat) (M : List (List Int)) (a : Int) (bq : Option Addr) (bs : List Int) (bc : Nat) (w : World) (hs : Sent w s) (hm : MapsAt w p len ms) (hM : MemAt w mp Q C M)
    (hbs : RowAt w bq bs) (ha : 0 ≤ a ∧ a < 18446744073709551616) (hk : rdK c cw ms len M a bs.length true = 4) :
    Calls Tryd.prog 59 #[.agg #[.int .i64 c, .bool cw, .slice p len cap], .slice mp M.length mc, .int .u64 a, .slice bq bs.length bc] w (WritePostN M a bs w) :=
  write_okN s c cw p len cap ms mp mc Q C M a bq bs bc w hs hm hM hbs ha (rdK_ok hk).1 (rdK_ok hk).2
theorem MemAt.nil (w : World) : MemAt w none (fun _ => none) (fun _ => 0) [] :=
  ⟨Nat.zero_le _, fun i => by simp, fun i hi => absurd hi (Nat.not_lt_zero _), fun i j hi => absurd hi (Nat.not_lt_zero _), fun i j hi => absurd hi (Nat.not_lt_zero _)⟩
/-- a memory and a number are answered -/
def MemPost (R : List (List Int)) (E : Int) (w : World) (e : Ending) (w' : World) : Prop :=
  ∃ mp mc Q C, e = .returned (.tuple #[.slice mp R.length mc, .int .i64 E]) ∧ Below w.heap.size w w' ∧ MemAt w' mp Q C R
theorem MemPost.none {E : Int} {w w' : World} (h : Below w.heap.size w w') : MemPost [] E w (.returned (.tuple #[.slice none 0 0, .int .i64 E])) w' := ⟨_, _, _, _, rfl, h, MemAt.nil _⟩
/-- the memory behind a fill, and what is told -/
def flM (c : Int) (cw : Bool) (ms : List Ar) (len : Nat) (M : List (List Int)) (a : Int) (bs : List Int) : List (List Int) := if rdK c cw ms len M a bs.length true = 4 then fillM M (regOf a - 1).toNat (offOf a).toNat bs else []
theorem fillM_length (M : List (List Int)) (r o : Nat) (bs : List Int) : (fillM M r o bs).length = M.length := by simp [fillM]

/-- the same, and the memory is new -/
def MemPostN (R : List (List Int)) (E : Int) (w : World) (e : Ending) (w' : World) : Prop :=
  ∃ mp mc Q C, e = .returned (.tuple #[.slice mp R.length mc, .int .i64 E]) ∧ Below w.heap.size w w' ∧ MemAt w' mp Q C R ∧ (∀ ad, mp = some ad → w.heap.size ≤ ad.block) ∧ ∀ i ad, i < R.length → Q i = some ad → w.heap.size ≤ ad.block
theorem MemPostN.none {E : Int} {w w' : World} (h : Below w.heap.size w w') : MemPostN [] E w (.returned (.tuple #[.slice none 0 0, .int .i64 E])) w' := ⟨_, _, _, _, rfl, h, MemAt.nil _, fun _ e => (by cases e), fun _ _ hi => absurd hi (Nat.not_lt_zero _)⟩
theorem MemPostN.old {R : List (List Int)} {E : Int} {w : World} {e : Ending} {w' : World} (h : MemPostN R E w e w') : MemPost R E w e w' := by
  obtain ⟨mp, mc, Q, C, h1, h2, h3, _⟩ := h
  exact ⟨mp, mc, Q, C, h1, h2, h3⟩
set_option maxHeartbeats 1000000 in
theorem fill_new (s : Nat → Addr) (c : Int) (cw : Bool) (p : Option Addr) (len cap : Nat) (ms : List Ar) (mp : Option Addr) (mc : Nat) (Q : Nat → Option Addr) (C : Nat → Nat) (M : List (List Int)) (a : Int) (bq : Option Addr) (bs : List Int) (bc : Nat) (w : World) (hs : Sent w s) (hm : MapsAt w p len ms) (hM : MemAt w mp Q C M)
    (hbs : RowAt w bq bs) (ha : 0 ≤ a ∧ a < 18446744073709551616) :
    Calls Tryd.prog 48 #[.agg #[.int .i64 c, .bool cw, .slice p len cap], .slice mp M.length mc, .int .u64 a, .slice bq bs.length bc] w
      (MemPostN (flM c cw ms len M a bs) (accN (rdK c cw ms len M a bs.length true)) w) := by
  have HM := Lib.hid hm
  have HMM := Lib.hid hM
  have HS := Lib.hid hs
  have HA := Lib.hid ha
  have HBS := Lib.hid hbs
  have HB1 := Lib.hid (fun o => (Below.refl w.heap.size w).alloc (Nat.le_refl _) o)
  have hle := rdK_le c cw ms len M a bs.length true
  obtain ⟨k, hk⟩ : ∃ k, rdK c cw ms len M a bs.length true = k := ⟨_, rfl⟩
  rw [hk] at hle ⊢
  by_cases h4 : k = 4
  · subst h4
    rw [accN_4]
    have e1 : flM c cw ms len M a bs = fillM M (regOf a - 1).toNat (offOf a).toNat bs := by simp [flM, hk]
    rw [e1]
    have HWR := Lib.hid (write_goodN s c cw p len cap ms mp mc Q C M a bq bs bc)
    have HK := Lib.hid hk
    obtain ⟨K, hK⟩ : ∃ K, M.length = K := ⟨_, rfl⟩
    have HKK := Lib.hid hK
    obtain ⟨N, hN⟩ : ∃ N, bs.length = N := ⟨_, rfl⟩
    rw [hK, hN] at HWR ⊢
    rw [hN] at HK
    clear hm hM hs ha hk hle hK hbs hN e1
    go_enter Tryd.func48, Tryd.ntmps48
    go_wp2_with (first
      | (go_at_call 59; refine (HWR.out _ (HS.out.below (HB1.out _)) (HM.out.alloc _) (HMM.out.alloc _) (HBS.out.alloc _) HA.out HK.out).mono ?_; rintro e w2 ⟨g, Q2, C2, rfl, hb, hmem, hge, hgr⟩; have HMEM := Lib.hid hmem; have HNEW := Lib.hid (And.intro hge hgr); clear hmem hge hgr)
      | (go_at_call 54; refine (number_nil _).mono ?_; rintro e w4 ⟨rfl, rfl⟩))
    go_ret2
    exact ⟨_, _, _, _, by rw [fillM_length]; rfl, below1 hb, HMEM.out, fun ad e => by injection e with e; subst e; have := HNEW.out.1; simp at this; show w.heap.size ≤ g; omega, fun i ad hi e => by rw [fillM_length] at hi; have := HNEW.out.2 i ad hi e; simp at this; omega⟩
  · have hk4 : k < 4 := by omega
    have e1 : flM c cw ms len M a bs = [] := by simp [flM, hk, h4]
    rw [e1, accN_lt hk4]
    obtain ⟨N, hN⟩ : ∃ N, bs.length = N := ⟨_, rfl⟩
    rw [hN] at hk ⊢
    have HWR := Lib.hid (write_bad s c cw p len cap ms mp mc Q C M a bq N bc)
    have HK := Lib.hid hk
    obtain ⟨K, hK⟩ : ∃ K, M.length = K := ⟨_, rfl⟩
    rw [hK] at HWR ⊢
    clear hm hM hs ha hk hle hK hbs hN e1 h4
    go_enter Tryd.func48, Tryd.ntmps48
    go_wp2_with (first
      | (go_at_call 59; refine (HWR.out _ (HS.out.below (HB1.out _)) (HM.out.alloc _) (HMM.out.alloc _) HA.out k HK.out hk4).mono ?_; rintro e w2 ⟨rfl, hb⟩)
      | (go_at_call 54; refine (number_any s k hk4 _ _ _ (HS.out.below (below1 hb))).mono ?_; rintro e w4 ⟨rfl, hb4⟩))
    go_ret2
    exact MemPostN.none (below_next (below1 hb) hb4)

theorem fill_any (s : Nat → Addr) (c : Int) (cw : Bool) (p : Option Addr) (len cap : Nat) (ms : List Ar) (mp : Option Addr) (mc : Nat) (Q : Nat → Option Addr) (C : Nat → Nat) (M : List (List Int)) (a : Int) (bq : Option Addr) (bs : List Int) (bc : Nat) (w : World) (hs : Sent w s) (hm : MapsAt w p len ms) (hM : MemAt w mp Q C M)
    (hbs : RowAt w bq bs) (ha : 0 ≤ a ∧ a < 18446744073709551616) :
    Calls Tryd.prog 48 #[.agg #[.int .i64 c, .bool cw, .slice p len cap], .slice mp M.length mc, .int .u64 a, .slice bq bs.length bc] w
      (MemPost (flM c cw ms len M a bs) (accN (rdK c cw ms len M a bs.length true)) w) :=
  (fill_new s c cw p len cap ms mp mc Q C M a bq bs bc w hs hm hM hbs ha).mono fun _ _ h => h.old

def stE (c : Int) (cw : Bool) (ms : List Ar) (len : Nat) (M : List (List Int)) (a n : Int) : Int := if isSize n = true then accN (rdK c cw ms len M a n true) else 2
def stM (c : Int) (cw : Bool) (ms : List Ar) (len : Nat) (M : List (List Int)) (a n x : Int) : List (List Int) := if isSize n = true then flM c cw ms len M a (putL x n.toNat) else []
end Go.Proofs.YthckkdkijajadaaDoor

/- Contract of Store. -/
namespace Go.Proofs.YthckkdkijajadaaDoor
open Go.RowKit M

theorem below1d {w w1 : World} {o : Obj} (h : Below (w.alloc o).drew.heap.size (w.alloc o).drew w1) : Below w.heap.size w w1 ∧ w.heap.size < w1.heap.size := by
  have h' : Below (w.alloc o).heap.size (w.alloc o) w1 := ⟨h.os, h.tape, h.output, h.size, h.block⟩
  exact ⟨below1 h', one_in h'⟩
theorem box_in {w w1 : World} {o : Obj} (h : Below (w.alloc o).drew.heap.size (w.alloc o).drew w1) : ∀ i, w1.cell? ⟨w.heap.size, i, none⟩ = (w.alloc o).cell? ⟨w.heap.size, i, none⟩ := fun i => by
  have h' : Below (w.alloc o).heap.size (w.alloc o) w1 := ⟨h.os, h.tape, h.output, h.size, h.block⟩
  exact h'.cell (p := ⟨w.heap.size, i, none⟩) (by simp)
theorem box0 {w w1 : World} {a b c : Value} {t : TypeId} (h : Below (w.alloc (.cells #[a, b, c] t)).drew.heap.size (w.alloc (.cells #[a, b, c] t)).drew w1) :
    w1.cell? ⟨w.heap.size, 0, none⟩ = some a ∧ w1.cell? ⟨w.heap.size, 1, none⟩ = some b ∧ w1.cell? ⟨w.heap.size, 2, none⟩ = some c :=
  ⟨(box_in h 0).trans (cell_new w rfl), (box_in h 1).trans (cell_new w rfl), (box_in h 2).trans (cell_new w rfl)⟩
def WritePostR (K : Nat) (R : List (List Int)) (w : World) (e : Ending) (w' : World) : Prop :=
  ∃ g Q C, e = .returned (.tuple #[.slice (some ⟨g, 0, none⟩) K K, .nilIface]) ∧ Below w.heap.size w w' ∧ MemAt w' (some ⟨g, 0, none⟩) Q C R
end Go.Proofs.YthckkdkijajadaaDoor

/- What the laws ask at any rate, call by call: closed facts on one small layout. -/
namespace Go.Proofs.YthckkdkijajadaaDoor
open Go.RowKit M

def msH : List Ar := [⟨16, true⟩]
def mH0 : List (List Int) := freshM (zOf 0 msH) 3
def mH1 : List (List Int) := fillM mH0 2 4 (putL 16909060 4)
theorem okH : okL 0 msH = true := by decide +kernel
theorem okH' : okL (-1) [] = false := by decide +kernel
theorem adH : (0 ≤ addrOf 3 4 ∧ addrOf 3 4 < 18446744073709551616) ∧ (0 ≤ addrOf 3 5 ∧ addrOf 3 5 < 18446744073709551616) ∧ (0 ≤ addrOf 3 12 ∧ addrOf 3 12 < 18446744073709551616) ∧ (0 ≤ addrOf 1 0 ∧ addrOf 1 0 < 18446744073709551616) := by decide +kernel
theorem stEH : stE 0 false msH 1 mH0 (addrOf 3 4) 4 = 0 := by decide +kernel
theorem stMH : stM 0 false msH 1 mH0 (addrOf 3 4) 4 16909060 = mH1 := by decide +kernel
theorem lenH0 : mH0.length = 3 := by decide +kernel
theorem lenH1 : mH1.length = 3 := by decide +kernel
theorem ldEH : loadE 0 false msH 1 mH1 (addrOf 3 5) 2 = 0 := by decide +kernel
theorem ldVH : loadV 0 false msH 1 mH1 (addrOf 3 5) 2 = 515 := by decide +kernel
theorem acH1 : accN (findK 0 false msH 1 (addrOf 3 12) 8 false) = 20 := by decide +kernel
theorem acH2 : accN (findK 0 false msH 1 (addrOf 1 0) 1 false) = 20 := by decide +kernel

/-- a memory of three areas and a number -/
def Mem3 (R : List (List Int)) (w : World) (e : Ending) (w' : World) : Prop :=
  ∃ mp mc Q C, e = .returned (.tuple #[.slice mp 3 mc, .int .i64 0]) ∧ Below w.heap.size w w' ∧ MemAt w' mp Q C R
theorem hAcc1 (s : Nat → Addr) (p : Option Addr) (w : World) (hs : Sent w s) (hm : MapsAt w p 1 msH) :
    Calls Tryd.prog 45 #[.agg #[.int .i64 0, .bool false, .slice p 1 1], .int .u64 (addrOf 3 12), .int .i64 8, .bool false] w fun e w' => e = .returned (.int .i64 20) ∧ Below w.heap.size w w' := by
  have h := access_any s 0 false p 1 1 msH (addrOf 3 12) 8 false w hs hm adH.2.2.1
  rw [acH1] at h
  exact h
theorem hAcc2 (s : Nat → Addr) (p : Option Addr) (w : World) (hs : Sent w s) (hm : MapsAt w p 1 msH) :
    Calls Tryd.prog 45 #[.agg #[.int .i64 0, .bool false, .slice p 1 1], .int .u64 (addrOf 1 0), .int .i64 1, .bool false] w fun e w' => e = .returned (.int .i64 20) ∧ Below w.heap.size w w' := by
  have h := access_any s 0 false p 1 1 msH (addrOf 1 0) 1 false w hs hm adH.2.2.2
  rw [acH2] at h
  exact h
theorem mapsH (w : World) : MapsAt (w.alloc (.cells #[.int .i64 16, .bool true] 24)) (some ⟨w.heap.size, 0, none⟩) 1 msH :=
  ⟨rfl, by decide, fun i hi => by
    have : i = 0 := by have : i < 1 := hi; omega
    subst this
    exact ⟨_, _, rfl, by simp, cell_new w rfl, cell_new w rfl⟩⟩
end Go.Proofs.YthckkdkijajadaaDoor

/- What the laws ask at any rate comes true. -/
namespace Go.Proofs.YthckkdkijajadaaDoor
open Go.RowKit M

/-- a world that keeps all of w: the layout, the errors, and the layout's box -/
structure HeadW (s : Nat → Addr) (w w1 : World) : Prop where
  below : Below w.heap.size w w1
  sent : Sent w1 s
  maps : MapsAt w1 (some ⟨w.heap.size, 0, none⟩) 1 msH
  box : w1.cell? ⟨w.heap.size + 1, 0, none⟩ = some (.int .i64 0) ∧ w1.cell? ⟨w.heap.size + 1, 1, none⟩ = some (.bool false) ∧ w1.cell? ⟨w.heap.size + 1, 2, none⟩ = some (.slice (some ⟨w.heap.size, 0, none⟩) 1 1)
  size : w.heap.size + 1 < w1.heap.size
theorem HeadW.next {s : Nat → Addr} {w w1 w2 : World} (h : HeadW s w w1) (hb : Below w1.heap.size w1 w2) : HeadW s w w2 :=
  ⟨below_next h.below hb, h.sent.below hb, h.maps.below hb,
    ⟨(hb.cell (p := ⟨w.heap.size + 1, 0, none⟩) h.size).trans h.box.1, (hb.cell (p := ⟨w.heap.size + 1, 1, none⟩) h.size).trans h.box.2.1, (hb.cell (p := ⟨w.heap.size + 1, 2, none⟩) h.size).trans h.box.2.2⟩, Nat.lt_of_lt_of_le h.size hb.size⟩
theorem HeadW.drew {s : Nat → Addr} {w w1 : World} (h : HeadW s w w1) : HeadW s w w1.drew := h.next (Below.refl _ _).drew
theorem HeadW.first {s : Nat → Addr} {w : World} (h : Sent w s) : HeadW s w ((w.alloc (.cells #[.int .i64 16, .bool true] 24)).alloc (.cells #[.int .i64 0, .bool false, .slice (some ⟨w.heap.size, 0, none⟩) 1 1] 27)) :=
  ⟨((Below.refl _ _).alloc (Nat.le_refl _) _).alloc (by simp) _, h.below (((Below.refl _ _).alloc (Nat.le_refl _) _).alloc (by simp) _), (mapsH w).alloc _,
    ⟨cell_new2 _ _ trivial rfl, cell_new2 _ _ trivial rfl, cell_new2 _ _ trivial rfl⟩, by simp⟩
theorem MemAt.drew {w : World} {mp : Option Addr} {Q : Nat → Option Addr} {C : Nat → Nat} {M : List (List Int)} (h : MemAt w mp Q C M) : MemAt w.drew mp Q C M := h.below (Below.refl _ _).drew

end Go.Proofs.YthckkdkijajadaaDoor
