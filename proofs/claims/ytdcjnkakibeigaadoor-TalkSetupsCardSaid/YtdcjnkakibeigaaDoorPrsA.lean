/-
  The parser of package scan: takes as the reader does, and panics with the error.
-/
import Derived.Test.YtdcjnkakibeigaaDoorScanC
import Derived.Test.YtdcjnkakibeigaaDoorOpenT
import Derived.Test.YtdcjnkakibeigaaDoorVintE
import Derived.WalkLawsBesides
namespace Go.Proofs.YtdcjnkakibeigaaDoor
open Go.RowKit
set_option linter.unusedVariables false
set_option linter.unusedSimpArgs false
end Go.Proofs.YtdcjnkakibeigaaDoor
