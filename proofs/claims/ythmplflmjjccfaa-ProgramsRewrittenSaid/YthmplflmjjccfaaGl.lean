/- The closure of stays. -/
import Derived.Test.YthmplflmjjccfaaGk
import Derived.Test.YthmplflmjjccfaaTk
import Derived.BigRegion
set_option linter.unusedSimpArgs false
set_option linter.unusedVariables false
namespace Go.Proofs.Ythmplflmjjccfaa
open Go.RowKit
end Go.Proofs.Ythmplflmjjccfaa
