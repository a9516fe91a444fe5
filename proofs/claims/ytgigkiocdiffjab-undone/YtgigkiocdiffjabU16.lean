import Derived.Test.YtgigkiocdiffjabU15
import Derived.Test.YtgigkiocdiffjabU13
import Derived.Test.YtgigkiocdiffjabU09
set_option maxRecDepth 100000
set_option maxHeartbeats 16000000
namespace Go.Proofs.Ytgigkiocdiffjab
open Go.RowKit Veil
def mayR (c:Cfg) (row:List RC) (tg r:Nat):Bool:=c.le (cellAt row r).origin tg
end Go.Proofs.Ytgigkiocdiffjab
