import Derived.Test.YtcgnbpaaalmkoaaCa
namespace Go.Proofs.Ytcgnbpaaalmkoaa
open Go.RowKit
set_option linter.unusedVariables false
set_option linter.unusedSimpArgs false

end Go.Proofs.Ytcgnbpaaalmkoaa
