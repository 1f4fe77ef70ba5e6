import Derived.Test.YtcgnbpaaalmkoabCa
namespace Go.Proofs.Ytcgnbpaaalmkoab
open Go.RowKit
set_option linter.unusedVariables false
set_option linter.unusedSimpArgs false

end Go.Proofs.Ytcgnbpaaalmkoab
