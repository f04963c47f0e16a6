/- Stage 3: the memory and the document's side by side: each call. No condition. -/
import Derived.Test.YtdlglnoffpnonaaR3
import Derived.Test.YtdlglnoffpnonaaQ9
set_option linter.unusedVariables false
namespace Go.Proofs.Ytdlglnoffpnonaa.P
open Go.RowKit Go.MuLone Go.Proofs.Ytdlglnoffpnonaa.W
end Go.Proofs.Ytdlglnoffpnonaa.P
