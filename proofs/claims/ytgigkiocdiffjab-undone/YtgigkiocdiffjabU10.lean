import Derived.Test.YtgigkiocdiffjabU09
import Derived.Test.YtgigkiocdiffjabU07
set_option maxRecDepth 100000
set_option maxHeartbeats 16000000
namespace Go.Proofs.Ytgigkiocdiffjab
open Go.RowKit Veil
def hitB (s p:ByteArray) (x:Sp):Bool:=(x.kind == 1 || x.kind == 2) && cutB (bytes p) (bytes (s.extract x.lo x.hi))
def findTo (s p:ByteArray) (L:List Sp) (k:Nat):List Sp:=(L.take k).filter (hitB s p)
theorem findTo_yes {s p:ByteArray} {L:List Sp} {k:Nat} {x:Sp} (hx:L[k]?=some x) (h:hitB s p x=true):findTo s p L (k+1)=findTo s p L k++[x]:=by
 unfold findTo;rw [List.take_add_one,hx,List.filter_append];simp [h]
theorem findTo_no {s p:ByteArray} {L:List Sp} {k:Nat} {x:Sp} (hx:L[k]?=some x) (h:hitB s p x=false):findTo s p L (k+1)=findTo s p L k:=by
 unfold findTo;rw [List.take_add_one,hx,List.filter_append];simp [h]
theorem findTo_length (s p:ByteArray) (L:List Sp) (k:Nat):(findTo s p L k).length≤k:=by
 unfold findTo
 have h1:=List.length_filter_le (hitB s p) (L.take k)
 have h2:(L.take k).length≤k:=by simp;omega
 omega
theorem spanF_le (s:ByteArray) (i:Nat) (hi:i<s.size):(spanF s i).lo≤(spanF s i).hi∧(spanF s i).hi≤s.size:=by
 have hf:=backF_fwd_le (fun j=>kindN (bt s j) == kindN (bt s i)) s.size (s.size-i) i (by omega)
 unfold spanF
 cases bt s i == 32
 ·cases bt s i == 35
  ·cases kindN (bt s i) == 0
   ·cases (decide (0<i) && (kindN (bt s (i-1)) == kindN (bt s i)))
    ·cases kindN (bt s i) == 97
     ·exact⟨hf.2,hf.1⟩
     ·exact⟨hf.2,hf.1⟩
    ·exact⟨Nat.le_refl _,Nat.zero_le _⟩
   ·exact⟨Nat.le_succ _,hi⟩
  ·exact⟨Nat.le_succ _,hi⟩
 ·exact⟨Nat.le_refl _,Nat.zero_le _⟩
end Go.Proofs.Ytgigkiocdiffjab
