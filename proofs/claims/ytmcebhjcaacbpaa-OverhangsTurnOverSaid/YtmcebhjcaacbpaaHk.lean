/- A block that is kept. -/
import Derived.Test.YtmcebhjcaacbpaaMk2
set_option linter.unusedSimpArgs false
set_option linter.unusedVariables false
namespace Go.Proofs.Ytmcebhjcaacbpaa
open Go.RowKit

end Go.Proofs.Ytmcebhjcaacbpaa
