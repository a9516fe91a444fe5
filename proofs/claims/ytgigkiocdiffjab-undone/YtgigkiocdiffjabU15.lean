import Derived.Test.YtgigkiocdiffjabU09
set_option maxRecDepth 100000
set_option maxHeartbeats 16000000
namespace Go.Proofs.Ytgigkiocdiffjab
open Go.RowKit Veil
end Go.Proofs.Ytgigkiocdiffjab
