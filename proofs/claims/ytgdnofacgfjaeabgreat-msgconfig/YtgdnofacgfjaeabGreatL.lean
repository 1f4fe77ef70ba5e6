import Derived.Test.YtgdnofacgfjaeabGreatE
import Derived.Test.YtgdnofacgfjaeabGreatLa
import Derived.Deep.DeepMust
namespace Go.Proofs.YtgdnofacgfjaeabGreat
open Go.RowKit
set_option linter.unusedVariables false

end Go.Proofs.YtgdnofacgfjaeabGreat
