import Derived.Test.YtgigkiocdiffjabUKuno
set_option maxRecDepth 100000
set_option maxHeartbeats 16000000
namespace Go.Proofs.Ytgigkiocdiffjab
open Go.RowKit Veil
section
variable {F F':Nat→Prop} {B g k:Nat} {w w' w'':World} {c:Cfg} {s s':PSt}
theorem one_log (h:One F B w g c s k) (lv:Nat) (hlv:lv<c.n) :
  Calls Try.prog 32 #[.pointer (some ⟨g,0,none⟩),.int .i64 lv] w fun e w'=>∃ vl,e=.returned (.tuple #[vl,.int .i64 0])∧OwnL 107 3 recV w' w.heap.size vl (s.L lv)∧Below w.heap.size w w':=by
 obtain⟨p,h1,h2⟩:=h
 exact dcLog_ok h1.own h1.n6 lv hlv (h1.lok lv hlv)
theorem one_version (h:One F B w g c s k) (lv:Nat) (hlv:lv<c.n) :
  Calls Try.prog 31 #[.pointer (some ⟨g,0,none⟩),.int .i64 lv] w fun e w'=>e=.returned (.tuple #[.int .i64 (s.V lv),.int .i64 0])∧Below w.heap.size w w':=by
 obtain⟨p,h1,h2⟩:=h
 exact dcVersion_ok h1.own h1.n6 lv hlv
end
end Go.Proofs.Ytgigkiocdiffjab
