import Derived.Test.YtfemlnfknebalabZa
import Derived.Test.YtfemlnfknebalabSd
namespace Go.Proofs.Ytfemlnfknebalab
open Go.RowKit
set_option linter.unusedVariables false
set_option linter.unusedSimpArgs false

end Go.Proofs.Ytfemlnfknebalab
