import Derived.Test.YtgigkiocdiffjaaGreatS11
set_option maxRecDepth 100000
set_option maxHeartbeats 16000000
namespace Go.Proofs.YtgigkiocdiffjaaGreat
open Go.RowKit Veil
def behindR (P:List Pl) (a:Nat):Nat:=match a with
 | 0=>0
 | k+1=>(plAt P k).last+1
end Go.Proofs.YtgigkiocdiffjaaGreat
