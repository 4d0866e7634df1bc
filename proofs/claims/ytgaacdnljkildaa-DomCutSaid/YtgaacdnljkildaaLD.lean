/- Dominance: package dom's own walk: may one go to a node? -/
import Derived.Test.YtgaacdnljkildaaLC
namespace Go.Proofs.Ytgaacdnljkildaa
open Go.RowKit
open Dm

/-- the variables of a walk -/
structure En (w : World) (b m N : Nat) (q : Option Addr) (qc : Nat) (cl : Int) (bs bc bt bo bv : Nat) : Prop where
  s : w.cell? ⟨bs, 0, none⟩ = some (.slice q N qc)
  c : w.cell? ⟨bc, 0, none⟩ = some (.int .i64 cl)
  t : w.cell? ⟨bt, 0, none⟩ = some (.pointer (some ⟨b, 0, none⟩))
  o : w.cell? ⟨bo, 0, none⟩ = some (.func (.func 31) #[] #[.pointer (some ⟨bs, 0, none⟩), .pointer (some ⟨bc, 0, none⟩), .pointer (some ⟨bt, 0, none⟩)])
  v : w.cell? ⟨bv, 0, none⟩ = some (.func (.func 32) #[] #[.pointer (some ⟨bs, 0, none⟩), .pointer (some ⟨bt, 0, none⟩), .pointer (some ⟨bo, 0, none⟩), .pointer (some ⟨bv, 0, none⟩)])
  ns : bs ≠ b ∧ bs ≠ m
  nc : bc ≠ b ∧ bc ≠ m
  nt : bt ≠ b ∧ bt ≠ m
  no : bo ≠ b ∧ bo ≠ m
  nv : bv ≠ b ∧ bv ≠ m
theorem En.at {w W : World} {b m N : Nat} {q : Option Addr} {qc : Nat} {cl : Int} {bs bc bt bo bv : Nat} (h : En w b m N q qc cl bs bc bt bo bv) (k : Chg w.heap.size (fun k => k = b ∨ k = m) w W) : En W b m N q qc cl bs bc bt bo bv := by
  have key : ∀ {a : Nat} {v : Value}, w.cell? ⟨a, 0, none⟩ = some v → a ≠ b ∧ a ≠ m → W.cell? ⟨a, 0, none⟩ = some v := fun {a v} e hn =>
    (k.cell (World.block_lt_of_cell? w ⟨a, 0, none⟩ e) (fun c => c.elim hn.1 hn.2) 0).trans e
  exact ⟨key h.s h.ns, key h.c h.nc, key h.t h.nt, key h.o h.no, key h.v h.nv, h.ns, h.nc, h.nt, h.no, h.nv⟩
theorem En.lts {w : World} {b m N : Nat} {q : Option Addr} {qc : Nat} {cl : Int} {bs bc bt bo bv : Nat} (h : En w b m N q qc cl bs bc bt bo bv) {g : Nat} (hg : w.heap.size ≤ g) : bs ≠ g ∧ bc ≠ g ∧ bt ≠ g ∧ bo ≠ g ∧ bv ≠ g := by
  have h1 : bs < _ := World.block_lt_of_cell? w ⟨bs, 0, none⟩ h.s
  have h2 : bc < _ := World.block_lt_of_cell? w ⟨bc, 0, none⟩ h.c
  have h3 : bt < _ := World.block_lt_of_cell? w ⟨bt, 0, none⟩ h.t
  have h4 : bo < _ := World.block_lt_of_cell? w ⟨bo, 0, none⟩ h.o
  have h5 : bv < _ := World.block_lt_of_cell? w ⟨bv, 0, none⟩ h.v
  omega
theorem opn_no {N : Nat} {cl : Int} {S : Ws} {x : Int} (h : ¬ isN N cl x) : opn N cl S x = false := by
  unfold opn; exact decide_eq_false (fun c => h c.1)
theorem opn_met {N : Nat} {cl : Int} {S : Ws} {x y : Int} {f : Int → Option Int} (hf : NumF f S.nodes) (h : f x = some y) : opn N cl S x = false := by
  obtain ⟨k, hk, e, _⟩ := hf.some_iff h
  unfold opn
  refine decide_eq_false (fun c => c.2 ?_)
  have : S.nodes.getD k 0 = x.toNat := by omega
  rw [← this]; exact getD_memN hk
theorem opn_new {N : Nat} {cl : Int} {S : Ws} {x : Int} {f : Int → Option Int} (hf : NumF f S.nodes) (hn : isN N cl x) (h : f x = none) : opn N cl S x = true := by
  unfold opn
  refine decide_eq_true ⟨hn, fun c => ?_⟩
  obtain ⟨k, hk, e⟩ := getD_of_mem c
  have := hf.is k hk
  have e2 : ((S.nodes.getD k 0 : Nat) : Int) = x := by unfold isN at hn; omega
  rw [e2, h] at this
  cases this
set_option maxRecDepth 100000 in
set_option maxHeartbeats 1000000 in
theorem sopen_any {w W : World} {b m N : Nat} {q0 : Option Addr} {qc : Nat} {cl : Int} {bs bc bt bo bv : Nat} {S : Ws} {dn : List Int} {f : Int → Option Int} {q : Nat → Option Addr} {c : Nat → Nat} (hE : En w b m N q0 qc cl bs bc bt bo bv) (h : To w W b m S dn f q c) (hN : N ≤ 1048576) (x : Int) :
    Calls Try.prog 31 #[.int .i64 x, .pointer (some ⟨bs, 0, none⟩), .pointer (some ⟨bc, 0, none⟩), .pointer (some ⟨bt, 0, none⟩)] W fun e w' => e = .returned (.bool (opn N cl S x)) ∧ W = w' := by
  have HE := hE.at h.ch
  obtain ⟨es, ec, et, eo, ev, _, _, _, _, _⟩ := HE
  by_cases x0 : 0 ≤ x
  · by_cases xN : x < (N : Int)
    · by_cases xc : x = cl
      · rw [opn_no (fun k => k.2.2 xc)]
        subst xc
        clear h hE
        go_enter Try.func31, Try.ntmps31
        go_wp2
        go_ret
        exact ⟨rfl, rfl⟩
      · have HM := Lib.hid (smet_any h x (lit_wf (by omega) (by omega)))
        have hx : (x != cl) = true := by simpa using xc
        cases hf : f x with
        | none =>
          rw [opn_new h.nf ⟨x0, xN, xc⟩ hf]
          rw [hf] at HM
          clear h hE hf
          go_enter Try.func31, Try.ntmps31
          go_wp2_with (go_at_call 22; (with_reducible refine HM.out.mono ?_); rintro e w1 ⟨rfl, rfl⟩)
          go_ret
          exact ⟨rfl, rfl⟩
        | some y =>
          rw [opn_met h.nf hf]
          rw [hf] at HM
          clear h hE hf
          go_enter Try.func31, Try.ntmps31
          go_wp2_with (go_at_call 22; (with_reducible refine HM.out.mono ?_); rintro e w1 ⟨rfl, rfl⟩)
          go_ret
          exact ⟨rfl, rfl⟩
    · rw [opn_no (fun k => xN k.2.1)]
      clear h hE
      go_enter Try.func31, Try.ntmps31
      go_wp2
      go_ret
      exact ⟨rfl, rfl⟩
  · rw [opn_no (fun k => x0 k.1)]
    clear h hE
    go_enter Try.func31, Try.ntmps31
    go_wp2
    go_ret
    exact ⟨rfl, rfl⟩
end Go.Proofs.Ytgaacdnljkildaa
