import Derived.Test.YtgigkiocdiffjaaGreatS09
set_option maxRecDepth 100000
set_option maxHeartbeats 16000000
namespace Go.Proofs.YtgigkiocdiffjaaGreat
open Go.RowKit Veil
end Go.Proofs.YtgigkiocdiffjaaGreat
