/-
  The parser: Text.
-/
import Derived.Test.YtdcjnkakibeigaaDoorPrsB
namespace Go.Proofs.YtdcjnkakibeigaaDoor
open Go.RowKit
set_option linter.unusedVariables false
set_option linter.unusedSimpArgs false
end Go.Proofs.YtdcjnkakibeigaaDoor
