import Derived.Test.YtanfijgjcbflbaaDoorVintA
import Derived.Test.YtanfijgjcbflbaaDoorBytesA
namespace Go.Proofs.YtanfijgjcbflbaaDoor
open Go.RowKit
set_option linter.unusedVariables false

end Go.Proofs.YtanfijgjcbflbaaDoor
