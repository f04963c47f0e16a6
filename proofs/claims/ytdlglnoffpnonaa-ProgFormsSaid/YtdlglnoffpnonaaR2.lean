/- Stage 3: the document's memory: Put, Store, Copy. No condition. -/
import Derived.Test.YtdlglnoffpnonaaR1
import Derived.StillTailTactics
set_option linter.unusedVariables false
namespace Go.Proofs.Ytdlglnoffpnonaa.P
open Go.RowKit Go.MuLone Go.Proofs.Ytdlglnoffpnonaa.W
theorem arr_list (x : ByteArray) (i : Nat) (h : i < x.size) : x.data.toList[i]'(by simpa using h) = x[i] := rfl
end Go.Proofs.Ytdlglnoffpnonaa.P
