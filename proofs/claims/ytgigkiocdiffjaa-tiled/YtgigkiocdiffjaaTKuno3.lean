import Derived.Test.YtgigkiocdiffjaaTKuno
import Derived.Test.YtgigkiocdiffjaaTKtile
import Derived.Test.YtgigkiocdiffjaaT13
set_option maxRecDepth 100000
set_option maxHeartbeats 16000000
namespace Go.Proofs.Ytgigkiocdiffjaa
open Go.RowKit Veil
def starT:ByteArray:=⟨#[42]⟩
def longL (s:ByteArray):List Sp:=(spansTo s s.size).filter fun x=>longB x.kind
theorem find_star (s:ByteArray):findAll s starT=longL s:=by
 unfold findAll longL
 congr 1
 funext x
 unfold hitB longB
 have:cutB (bytes starT) (bytes (s.extract x.lo x.hi))=true:=(cutB_one 42 _).2 (Or.inl rfl)
 rw [this,Bool.and_true]
section
variable {F F':Nat→Prop} {B g k:Nat} {w w' w'':World} {c:Cfg} {s s':PSt}
theorem one_spans (h:One F B w g c s k) (lv:Nat) (hlv:lv<c.n) :
  Calls Try.prog 19 #[.pointer (some ⟨g,0,none⟩),.int .i64 lv] w fun e w'=>∃ vl,e=.returned (.tuple #[vl,.int .i64 0])∧OwnL 57 3 spV w' w.heap.size vl (spansTo (viewT (placesR c s.row lv)) (viewT (placesR c s.row lv)).size)∧Below w.heap.size w w':=by
 obtain⟨p,h1,h2⟩:=h
 exact dcSpans_ok c s.row g _ _ p.rv p.pv _ _ _ B lv w h1.own.box h1.own.rules h1.own.cells rfl rfl h1.right h1.rowGood hlv
theorem one_star (h:One F B w g c s k) (lv:Nat) (hlv:lv<c.n) :
  Calls Try.prog 20 #[.pointer (some ⟨g,0,none⟩),.int .i64 lv,.string starT] w fun e w'=>∃ vl,e=.returned (.tuple #[vl,.int .i64 0])∧OwnL 57 3 spV w' w.heap.size vl (longL (viewT (placesR c s.row lv)))∧Below w.heap.size w w':=by
 obtain⟨p,h1,h2⟩:=h
 have:=dcFind_ok c s.row g _ _ p.rv p.pv _ _ _ B lv starT w h1.own.box h1.own.rules h1.own.cells rfl rfl h1.right h1.rowGood hlv (by decide)
 rw [findTo_all,find_star] at this
 exact this
end
end Go.Proofs.Ytgigkiocdiffjaa
