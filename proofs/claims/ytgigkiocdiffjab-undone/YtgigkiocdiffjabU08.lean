import Derived.Test.YtgigkiocdiffjabU07
import Derived.Deep.RegionHeldLaw
set_option maxRecDepth 100000
set_option maxHeartbeats 16000000
namespace Go.Proofs.Ytgigkiocdiffjab
open Go.RowKit Veil
def placeV (p:Pl):List Value:=[.int .u8 p.b,.int .i64 p.first,.int .i64 p.last]
theorem below_drew (w:World):Below w.heap.size w w.drew:=(Below.refl _ _).drew
def byF (row:List RC) (r:Nat):Nat:=(cellAt row r).b
def numF (A:List Nat) (j:Nat):Nat:=A.getD j 0
def hidF (H:List Bool) (j:Nat):Bool:=H.getD j false
def pcF (row:List RC) (A:List Nat) (H:List Bool) (m k:Nat):Piece:=pieceF (fun j=>kindN (byF row (numF A j))) (fun j=>byF row (numF A j)) (hidF H) m k
def emptyB (s:ByteArray):Bool:=s.toList == (⟨#[]⟩:ByteArray).toList
theorem empty_list:(⟨#[]⟩:ByteArray).toList=[]:=by
 unfold ByteArray.toList
 unfold ByteArray.toList.loop
 simp [ByteArray.size]
def stF (c:Cfg) (d:Nat) (row:List RC) (A:List Nat) (H:List Bool) (m k:Nat):Bool:=!emptyB (pcF row A H m k).text && struckB c (pcF row A H m k).text d
def frF (c:Cfg) (d:Nat) (row:List RC) (A:List Nat) (j:Nat):Bool:=(seenF c (cellAt row (numF A j)) d).2
def placesF (c:Cfg) (d:Nat) (row:List RC) (A:List Nat) (H:List Bool) (m:Nat):List Pl:=plTo (numF A) (fun j=>byF row (numF A j)) (fun j=>hidF H j || (moreTo (pcF row A H m) (stF c d row A H m) (frF c d row A) m m).getD j false) m
def placesR (c:Cfg) (row:List RC) (d:Nat):List Pl:=placesF c d row (atTo c row d row.length) (hidTo c row d row.length) (atTo c row d row.length).length
end Go.Proofs.Ytgigkiocdiffjab
