/- Package dom's own contracts, all in one place. -/
import Derived.Test.YtgaacdnljkildaaMK
import Derived.Test.YtgaacdnljkildaaLI
namespace Go.Proofs.Ytgaacdnljkildaa
open Go.RowKit
open Dm

/-- a number that a Go int bears -/
theorem wd_nil : Wd [] := fun i x hx => by simp at hx
theorem wd_set {g : List (List Int)} (h : Wd g) (a : Nat) : Wd (g.set a []) := fun i x hx => by
  rw [getD_set_l] at hx
  split at hx
  · cases hx
  · exact h i x hx
end Go.Proofs.Ytgaacdnljkildaa
