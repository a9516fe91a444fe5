import Derived.Test.YtgigkiocdiffjaaT12
set_option maxRecDepth 100000
set_option maxHeartbeats 16000000
namespace Go.Proofs.Ytgigkiocdiffjaa
open Veil
def endAt (L:List Sp) (j:Nat):Nat:=match j with
 | 0=>0
 | j+1=>(L.getD j ⟨0,0,0⟩).hi
structure TileAt (s:ByteArray) (e:Nat) (x:Sp):Prop where
 le:e≤x.lo
 lt:x.lo<x.hi
 size:x.hi≤s.size
 blank:∀ k,e≤k→k<x.lo→bt s k=32
 kind:∀ k,x.lo≤k→k<x.hi→kindP (bt s k)=x.kind
 one:longB x.kind=false→x.hi=x.lo+1
 long:longB x.kind=true→x.hi<s.size→kindP (bt s x.hi)≠x.kind
 some:x.kind≠0∧x.kind<5
structure Tiles (s:ByteArray) (L:List Sp) (i:Nat):Prop where
 at':∀ j x,L[j]?=Option.some x→TileAt s (endAt L j) x
 rest:∀ k,endAt L L.length≤k→k<i→bt s k=32
 le:endAt L L.length≤i
theorem endAt_app {L M:List Sp} {j:Nat} (h:j≤L.length):endAt (L++M) j=endAt L j:=by
 cases j with
 | zero=>rfl
 | succ j=>
  show ((L++M).getD j _).hi=(L.getD j _).hi
  rw [List.getD,List.getD,List.getElem?_append_left (by omega)]
theorem kindP_blank {b:Nat} (h:kindP b=0):b=32:=by
 unfold kindP at h
 cases h1:kindN b == 97
 ·cases h2:kindN b == 48
  ·cases h3:b == 35
   ·cases h4:b == 32
    ·rw [h1,h2,h3,h4] at h;cases h
    ·simpa using h4
   ·rw [h1,h2,h3] at h;cases h
  ·rw [h1,h2] at h;cases h
 ·rw [h1] at h;cases h
theorem kindP_5 (b:Nat):kindP b<5:=by
 unfold kindP
 cases kindN b == 97 <;> cases kindN b == 48 <;> cases b == 35 <;> cases b == 32 <;> decide
theorem tiles_step {s:ByteArray} {i:Nat} (hi:i<s.size) (hs:startsB s i=true) (h:Tiles s (spansTo s i) i):Tiles s (spansTo s (endF s i (kindP (bt s i)))) (endF s i (kindP (bt s i))):=by
 have hgt:=endF_gt (k:=kindP (bt s i)) hi
 rw [spansTo_end hi hs]
 generalize spansTo s i=L at *
 cases hk:kindP (bt s i) == 0
 ·rw [cond_false]
  have hk':kindP (bt s i)≠0:=by simpa using hk
  have hlen:(L++[(⟨kindP (bt s i),i,endF s i (kindP (bt s i))⟩:Sp)]).length=L.length+1:=by simp
  have hend:endAt (L++[(⟨kindP (bt s i),i,endF s i (kindP (bt s i))⟩:Sp)]) (L.length+1)=endF s i (kindP (bt s i)):=by
   show ((L++[_]).getD L.length _).hi=_
   rw [List.getD,List.getElem?_append_right (Nat.le_refl _)]
   simp
  have hsp:∀ k,i≤k→k<endF s i (kindP (bt s i))→kindP (bt s k)=kindP (bt s i):=fun k h1 h2=>by
   by_cases he:k=i
   ·rw [he]
   ·unfold endF at h2
    cases hl:longB (kindP (bt s i))
    ·rw [hl,cond_false] at h2
     omega
    ·rw [hl,cond_true] at h2
     have:=fwdF_spec (fun j=>kindP (bt s j) == kindP (bt s i)) s.size _ (i+1) k (by omega) h2
     simpa using this
  refine⟨fun j x hx=>?_,fun k h1 h2=>?_,?_⟩
  ·by_cases hj:j<L.length
   ·rw [List.getElem?_append_left hj] at hx
    rw [endAt_app (by omega)]
    exact h.at' j x hx
   ·rw [List.getElem?_append_right (by omega)] at hx
    have hj':j=L.length:=by
     by_cases hj2:j-L.length=0
     ·omega
     ·rw [List.getElem?_eq_none (by simp;omega)] at hx
      cases hx
    subst hj'
    rw [Nat.sub_self] at hx
    obtain rfl:=Option.some.inj hx
    rw [endAt_app (Nat.le_refl _)]
    refine⟨h.le,hgt.1,hgt.2,h.rest,hsp,fun hl=>?_,fun hl hlt=>?_,hk',kindP_5 _⟩
    ·show endF s i (kindP (bt s i))=i+1
     unfold endF
     have hl':longB (kindP (bt s i))=false:=hl
     rw [hl']
     rfl
    ·have hl':longB (kindP (bt s i))=true:=hl
     have e:endF s i (kindP (bt s i))=fwdF (fun j=>kindP (bt s j) == kindP (bt s i)) s.size (s.size-(i+1)) (i+1):=by unfold endF;rw [hl'];rfl
     have hlt':endF s i (kindP (bt s i))<s.size:=hlt
     show kindP (bt s (endF s i (kindP (bt s i))))≠kindP (bt s i)
     rw [e] at hlt' ⊢
     have:=fwdF_stop (fun j=>kindP (bt s j) == kindP (bt s i)) s.size (s.size-(i+1)) (i+1) (by omega) (Nat.le_refl _) hlt'
     simpa using this
  ·rw [hlen,hend] at h1
   omega
  ·rw [hlen,hend]
   exact Nat.le_refl _
 ·rw [cond_true,List.append_nil]
  have hz:kindP (bt s i)=0:=by simpa using hk
  have e:endF s i (kindP (bt s i))=i+1:=by unfold endF;rw [hz];rfl
  rw [e]
  have:=h.le
  refine⟨h.at',fun k h1 h2=>?_,by omega⟩
  by_cases he:k=i
  ·rw [he];exact kindP_blank hz
  ·exact h.rest k h1 (by omega)
theorem tiles_all (s:ByteArray):Tiles s (spansTo s s.size) s.size:=by
 have key:∀ n i,s.size-i≤n→i≤s.size→(i<s.size→startsB s i=true)→Tiles s (spansTo s i) i→Tiles s (spansTo s s.size) s.size:=by
  intro n
  induction n with
  | zero=>
   intro i h1 h2 _ h
   obtain rfl:i=s.size:=by omega
   exact h
  | succ n ih=>
   intro i h1 h2 h3 h
   by_cases hi:i<s.size
   ·have hgt:=endF_gt (k:=kindP (bt s i)) hi
    exact ih _ (by omega) hgt.2 (fun he=>endF_starts hi he) (tiles_step hi (h3 hi) h)
   ·obtain rfl:i=s.size:=by omega
    exact h
 refine key s.size 0 (by omega) (Nat.zero_le _) (fun _=>startsB_zero s) ⟨fun j x hx=>?_,fun k h1 h2=>by omega,Nat.zero_le _⟩
 simp [spansTo] at hx
end Go.Proofs.Ytgigkiocdiffjaa
