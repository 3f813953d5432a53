/-
  The parser: Must, Number, Byte, Bytes, Text, Left, NewParser.
-/
import Derived.Test.YtdcjnkakibeigaaDoorPrsA
namespace Go.Proofs.YtdcjnkakibeigaaDoor
open Go.RowKit
set_option linter.unusedVariables false
set_option linter.unusedSimpArgs false
end Go.Proofs.YtdcjnkakibeigaaDoor
