/-
  Are two lists of symbols equal, as told.
-/
import Derived.Test.YtnaegkpaiahpmaaSymF
import Derived.ProofKit
import Derived.OpenShut
set_option linter.unusedVariables false
set_option linter.unusedSimpArgs false
/-
  Are two lists of symbols equal, as told.
-/
namespace Go.Sx
open Go.RowKit

end Go.Sx

