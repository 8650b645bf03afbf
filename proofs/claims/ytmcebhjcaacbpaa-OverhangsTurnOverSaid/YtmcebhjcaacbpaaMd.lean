/- The reference's meshes made anew, vertex by vertex. -/
import Derived.Test.YtmcebhjcaacbpaaPm
import Derived.Deep.RegionLaw
set_option linter.unusedSimpArgs false
set_option linter.unusedVariables false
namespace Go.Proofs.Ytmcebhjcaacbpaa
open Go.RowKit

end Go.Proofs.Ytmcebhjcaacbpaa
