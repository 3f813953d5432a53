import Derived.Test.YtdcjnkakibeigaaDoorVintA
import Derived.Test.YtdcjnkakibeigaaDoorBytesA
namespace Go.Proofs.YtdcjnkakibeigaaDoor
open Go.RowKit
set_option linter.unusedVariables false

end Go.Proofs.YtdcjnkakibeigaaDoor
