import Derived.Test.YtgiokkcdgoloaabNa
namespace Go.Proofs.Ytgiokkcdgoloaab
open Go.RowKit
set_option linter.unusedVariables false
set_option linter.unusedSimpArgs false

end Go.Proofs.Ytgiokkcdgoloaab
