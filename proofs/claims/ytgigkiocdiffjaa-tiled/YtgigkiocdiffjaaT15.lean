import Derived.Test.YtgigkiocdiffjaaT09
set_option maxRecDepth 100000
set_option maxHeartbeats 16000000
namespace Go.Proofs.Ytgigkiocdiffjaa
open Go.RowKit Veil
end Go.Proofs.Ytgigkiocdiffjaa
