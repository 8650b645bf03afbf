/- Overhangs and Crossing, and what the reference says of them. -/
import Derived.Test.YtmcebhjcaacbpaaFt
import Derived.Test.YtmcebhjcaacbpaaAmesh
set_option linter.unusedSimpArgs false
set_option linter.unusedVariables false
namespace Go.Proofs.Ytmcebhjcaacbpaa
open Go.RowKit

/-- The faces' corners are vertices. -/
def Good (nv nf : Nat) (F : Nat → V3) : Prop := ∀ k, k < nf → ((0 ≤ (F k).x ∧ (F k).x < nv) ∧ (0 ≤ (F k).y ∧ (F k).y < nv) ∧ 0 ≤ (F k).z ∧ (F k).z < nv)
theorem good_of {nv nf : Nat} {V F : Nat → V3} (h : fault nv V nf F = 0) : Good nv nf F := by
  intro k hk
  have h0 : first (fErr nv V F) nf = 0 := by
    refine Decidable.byContradiction fun hn => ?_
    unfold fault at h
    split at h
    · omega
    split at h
    · omega
    split at h
    · omega
    exact hn h
  have h1 := first_none h0 k hk
  unfold fErr at h1
  split at h1
  · rename_i h2
    simp [fIx, inB] at h2
    omega
  · omega

def PO (V F : Nat → V3) (num den : Int) (k : Nat) : Bool := ovh (vnorm (V (F k).x.toNat) (V (F k).y.toNat) (V (F k).z.toNat)) num den
def PC (V F : Nat → V3) (z : Int) (k : Nat) : Bool := crs (V (F k).x.toNat).z (V (F k).y.toNat).z (V (F k).z.toNat).z z

end Go.Proofs.Ytmcebhjcaacbpaa
