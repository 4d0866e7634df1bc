/- Dominance: package dom's own Frontier. -/
import Derived.Test.YtgaacdnljkildaaMI
import Derived.Test.YtgaacdnljkildaaDL
namespace Go.Proofs.Ytgaacdnljkildaa
open Go.RowKit
open Dm

theorem Sr.gs {base b N : Nat} {W : World} {r : Nat → List Int} {q : Nat → Option Addr} {c : Nat → Nat} (h : Sr base W b (List.range N) r q c) (hs : ∀ j, (r j).length ≤ 1048576) : GsAt W (some ⟨b, 0, none⟩) (wt N r) := by
  refine ⟨fun a ha => ?_⟩
  have ha' : a < N := by simpa [wt] using ha
  rw [wt_get ha']
  refine ⟨b, 0, q a, c a, rfl, h.bl, ?_, h.nums (List.mem_range.2 ha') (Nat.le_trans (hs a) (by omega))⟩
  rw [Nat.zero_add]
  exact h.cl a (List.mem_range.2 ha')
theorem frK_len (g : List (List Int)) (k a : Nat) : (frK g k a).length ≤ k := by
  unfold frK
  rw [List.length_map]
  exact Nat.le_trans (List.length_filter_le ..) (by simp)
theorem Fm.start {z w2 : World} {gr gl N M : Nat} {W : World} {res : List Int} (hb2 : Below z.heap.size z w2) (ho : w2.ownsRow z.heap.size 3 1 (.slice (some ⟨gr, 0, none⟩) M M) M (intsV res)) (hb3 : Below (w2.alloc (.cells (madeCells #[.slice none 0 0] N) 27)).heap.size (w2.alloc (.cells (madeCells #[.slice none 0 0] N) 27)) W) (hgl : (w2.alloc (.cells (madeCells #[.slice none 0 0] N) 27)).heap.size ≤ gl) (hr : W.heap[gl]? = some (.cells (rpc (-1) M M).toArray 3 (0, 0))) (hM : M ≤ 1048576) :
    Fm z W w2.heap.size gl gr N M (fun _ => []) (fun _ => none) (fun _ => 0) (List.replicate M (-1)) res := by
  have s2 := hb2.size
  have sz : (w2.alloc (.cells (madeCells #[.slice none 0 0] N) 27)).heap.size = w2.heap.size + 1 := World.size_alloc ..
  have l2 := ho.lt gr rfl
  have hl := own_heap (W := W) (base := z.heap.size) (N := M) (l := List.replicate M (-1)) (by omega) hr (by rw [rpc_ints]) (by simp) hM
  rw [List.length_replicate] at hl
  exact ⟨(Sr.rows z.heap.size w2 N).next hb3, hl, own_below (ho.alloc _) hb3, s2, by omega, by omega, by omega, fun j _ k e => by simp at e, (hb2.trans ((b1 (w := w2)).mono s2)).trans (hb3.mono (by omega))⟩
end Go.Proofs.Ytgaacdnljkildaa
