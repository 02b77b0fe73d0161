import Derived.Test.YtnohcppipkpgmaaDoorDa
namespace Go.Proofs.YtnohcppipkpgmaaDoor
open Go.RowKit
set_option linter.unusedVariables false
set_option linter.unusedSimpArgs false

end Go.Proofs.YtnohcppipkpgmaaDoor
