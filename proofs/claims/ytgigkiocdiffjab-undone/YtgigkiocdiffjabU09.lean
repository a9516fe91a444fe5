import Derived.Test.YtgigkiocdiffjabU08
import Derived.Deep.RegionHeldLaw
import Derived.Test.YtgigkiocdiffjabU07
set_option maxRecDepth 100000
set_option maxHeartbeats 16000000
namespace Go.Proofs.Ytgigkiocdiffjab
open Go.RowKit Veil
def plB (l:List Pl) (j:Nat):Nat:=(l.getD j ⟨0,0,0⟩).b
def viewT (l:List Pl):ByteArray:=textF (plB l) 0 l.length
end Go.Proofs.Ytgigkiocdiffjab
namespace Go.Proofs.Ytgigkiocdiffjab
open Go.RowKit Veil
def thR (c:Cfg) (row:List RC) (d r:Nat):Bool:=thereB c (cellAt row r) d
def cellsIn (c:Cfg) (row:List RC) (d first i:Nat):List Nat:=(List.range' first (i-first)).filter (thR c row d)
def plAt (P:List Pl) (k:Nat):Pl:=P.getD k ⟨0,0,0⟩
def cellsTo (c:Cfg) (row:List RC) (d:Nat) (P:List Pl) (a k:Nat):List Nat:=(List.range' a (k-a)).flatMap fun j=>cellsIn c row d (plAt P j).first ((plAt P j).last+1)
end Go.Proofs.Ytgigkiocdiffjab
namespace Go.Proofs.Ytgigkiocdiffjab
open Go.RowKit Veil
structure Only (F:Nat→Prop) (w w':World):Prop where
 os:w'.os=w.os
 tape:w'.tape=w.tape
 output:w'.output=w.output
 size:w.heap.size≤w'.heap.size
 block:∀ k,k<w.heap.size→¬ F k→w'.heap[k]?=w.heap[k]?
theorem Only.refl (F:Nat→Prop) (w:World):Only F w w:=⟨rfl,rfl,rfl,Nat.le_refl _,fun _ _ _=>rfl⟩
theorem Only.trans {F F':Nat→Prop} {w w' w'':World} (h:Only F w w') (h':Only F' w' w'') (hF:∀ k,F' k→F k∨w.heap.size≤k):Only F w w'':=
 ⟨h'.os.trans h.os,h'.tape.trans h.tape,h'.output.trans h.output,Nat.le_trans h.size h'.size,fun k hk hn=>(h'.block k (Nat.lt_of_lt_of_le hk h.size) (fun hf=>by rcases hF k hf with h1|h1;exact hn h1;omega)).trans (h.block k hk hn)⟩
theorem Only.of_below {F:Nat→Prop} {w w':World} (h:Below w.heap.size w w'):Only F w w':=⟨h.os,h.tape,h.output,h.size,fun k hk _=>h.block k hk⟩
theorem Only.below {F:Nat→Prop} {w w':World} {B:Nat} (h:Only F w w') (hF:∀ k,F k→B≤k) (hB:B≤w.heap.size):Below B w w':=⟨h.os,h.tape,h.output,h.size,fun k hk=>h.block k (by omega) (fun hf=>by have:=hF k hf;omega)⟩
def markC (row:List RC) (r:Nat) (m:Mk):List RC:=row.modify r fun x=>⟨x.b,x.origin,x.marks++[m]⟩
def markAll (row:List RC) (L:List Nat) (m:Mk):List RC:=L.foldl (fun row r=>markC row r m) row
end Go.Proofs.Ytgigkiocdiffjab
namespace Go.Proofs.Ytgigkiocdiffjab
open Go.RowKit Veil
theorem grown_setCell (w:World) (a:Addr) (u:Value):w.grownBy (w.setCell a u) (some a.block):=
 ⟨rfl,rfl,rfl,by simp,fun k hk hne=>heap_setCell_other _ _ _ _ (fun e=>hne (by rw [e]))⟩
section
variable {w0 w w1 w2:World} {g:Nat} {c:Cfg} {v:CfgV} {rows:List (RC × Value)} {acts:List RA} {rv av:Value}
end
end Go.Proofs.Ytgigkiocdiffjab
namespace Go.Proofs.Ytgigkiocdiffjab
open Go.RowKit Veil
end Go.Proofs.Ytgigkiocdiffjab
namespace Go.Proofs.Ytgigkiocdiffjab
open Go.RowKit Veil
section
variable {w0 w w1 w2:World} {g:Nat} {c:Cfg} {v:CfgV} {rows:List (RC × Value)} {acts:List RA} {rv av:Value}
end
end Go.Proofs.Ytgigkiocdiffjab
namespace Go.Proofs.Ytgigkiocdiffjab
open Go.RowKit Veil
structure PlOk (n:Nat) (p:Pl):Prop where
 byte:p.b<256
 le:p.first≤p.last
 lt:p.last<n
theorem mem_lastTo {l:List Pl} {x:Nat} {p:Pl} (h:p ∈ lastTo l x):p ∈ l∨∃ q,q ∈ l∧p=⟨q.b,q.first,x⟩:=by
 obtain⟨i,hi,he⟩:=List.getElem_of_mem h
 unfold lastTo at he hi
 rw [List.getElem_modify] at he
 split at he
 ·exact Or.inr ⟨_,List.getElem_mem _,he.symm⟩
 ·exact Or.inl (he ▸ List.getElem_mem _)
theorem plTo_ok {A B:Nat→Nat} {h:Nat→Bool} {m:Nat} (hB:∀ j,j<m→B j<256) (hmono:∀ i j,i<j→j<m→A i<A j):∀ k,k≤m→∀ p,p ∈ plTo A B h k→p.b<256∧p.first≤p.last∧∃ j,j<k∧p.last=A j:=by
 intro k
 induction k with
 | zero=>intro _ p hp;simp [plTo] at hp
 | succ k ih=>
  intro hk p hp
  have old:∀ q,q ∈ plTo A B h k→q.b<256∧q.first≤q.last∧∃ j,j<k+1∧q.last=A j:=fun q hq=>by
   obtain⟨h1,h2,j,h3,h4⟩:=ih (by omega) q hq
   exact⟨h1,h2,j,by omega,h4⟩
  rw [plTo] at hp
  cases hh:h k
  ·rw [hh] at hp
   simp only [cond_false,List.mem_append,List.mem_singleton] at hp
   rcases hp with hp|rfl
   ·exact old p hp
   ·exact⟨hB k (by omega),Nat.le_refl _,k,by omega,rfl⟩
  ·rw [hh] at hp
   cases h2:(decide (0<k) && h (k-1))
   ·rw [h2] at hp
    simp only [cond_true,cond_false,List.mem_append,List.mem_singleton] at hp
    rcases hp with hp|rfl
    ·exact old p hp
    ·exact⟨show (35:Nat)<256 by decide,Nat.le_refl _,k,by omega,rfl⟩
   ·rw [h2] at hp
    simp only [cond_true] at hp
    rcases mem_lastTo hp with hp|⟨q,hq,rfl⟩
    ·exact old p hp
    ·obtain⟨h1,h2,j,h3,h4⟩:=ih (by omega) q hq
     refine⟨h1,?_,k,by omega,rfl⟩
     have:=hmono j k h3 (by omega)
     simp only
     omega
theorem numF_mono (c:Cfg) (row:List RC) (d k:Nat):∀ i j,i<j→j<(atTo c row d k).length→numF (atTo c row d k) i<numF (atTo c row d k) j:=by
 intro i j hij hj
 have hp:List.Pairwise (·<·) (atTo c row d k):=by
  unfold atTo
  exact List.Pairwise.filter _ List.pairwise_lt_range
 have:=List.pairwise_iff_getElem.1 hp i j (by omega) hj hij
 have h1:numF (atTo c row d k) i=(atTo c row d k)[i]'(by omega):=by simp [numF,List.getD,List.getElem?_eq_getElem (show i<(atTo c row d k).length by omega)]
 have h2:numF (atTo c row d k) j=(atTo c row d k)[j]:=by simp [numF,List.getD,List.getElem?_eq_getElem hj]
 rw [h1,h2];exact this
theorem placesR_ok (c:Cfg) (row:List RC) (d:Nat) (hb:∀ x,x ∈ row→x.b<256):(placesR c row d).length≤row.length∧∀ p,p ∈ placesR c row d→PlOk row.length p:=by
 have hl:=atTo_length c row d row.length
 have hA:∀ j,j<(atTo c row d row.length).length→numF (atTo c row d row.length) j<row.length:=fun j hj=>by
  have h2:numF (atTo c row d row.length) j=(atTo c row d row.length)[j]:=by simp [numF,List.getD,List.getElem?_eq_getElem hj]
  rw [h2];exact atTo_lt (List.getElem_mem hj)
 have hB:∀ r,byF row r<256:=fun r=>by
  unfold byF cellAt
  by_cases hr:r<row.length
  ·have:row.getD r ⟨0,0,[]⟩=row[r]:=by simp [List.getD,hr]
   rw [this];exact hb _ (List.getElem_mem hr)
  ·have:row.getD r ⟨0,0,[]⟩=⟨0,0,[]⟩:=by simp [List.getD];rw [List.getElem?_eq_none (by omega)];rfl
   rw [this];decide
 unfold placesR placesF
 refine⟨Nat.le_trans (plTo_length _ _ _ _).1 hl,fun p hp=>?_⟩
 obtain⟨h1,h2,j,h3,h4⟩:=plTo_ok (fun j _=>hB _) (numF_mono c row d row.length) _ (Nat.le_refl _) p hp
 exact⟨h1,h2,by rw [h4];exact hA j h3⟩
theorem plB_ok {n:Nat} {P:List Pl} (h:∀ p,p ∈ P→PlOk n p) (j:Nat):plB P j<256:=by
 unfold plB
 by_cases hj:j<P.length
 ·have:P.getD j ⟨0,0,0⟩=P[j]:=by simp [List.getD,hj]
  rw [this];exact (h _ (List.getElem_mem hj)).byte
 ·have:P.getD j ⟨0,0,0⟩=⟨0,0,0⟩:=by simp [List.getD];rw [List.getElem?_eq_none (by omega)];rfl
  rw [this];decide
end Go.Proofs.Ytgigkiocdiffjab
namespace Go.Proofs.Ytgigkiocdiffjab
open Go.RowKit Veil
end Go.Proofs.Ytgigkiocdiffjab
namespace Go.Proofs.Ytgigkiocdiffjab
open Go.RowKit Veil
structure Sp where
 kind:Nat
 lo:Nat
 hi:Nat
def spV (x:Sp):List Value:=[.int .i64 x.kind,.int .i64 x.lo,.int .i64 x.hi]
def bt (s:ByteArray) (j:Nat):Nat:=((bytes s).getD j 0).toNat
theorem bt_get (s:ByteArray) (j:Nat) (h:j<s.size):bt s j=s[j].toNat:=by
 have:(bytes s).getD j 0=s[j]:=by
  rw [← bytes_get s j h,List.getD,List.getElem?_eq_getElem (by rw [bytes_length];exact h)];rfl
 unfold bt;rw [this]
def spanF (s:ByteArray) (i:Nat):Sp:=
 bif bt s i == 32 then ⟨0,0,0⟩ else bif bt s i == 35 then ⟨3,i,i+1⟩ else bif kindN (bt s i) == 0 then ⟨4,i,i+1⟩ else
  bif decide (0<i) && (kindN (bt s (i-1)) == kindN (bt s i)) then ⟨0,0,0⟩ else
   bif kindN (bt s i) == 97 then ⟨1,i,fwdF (fun j=>kindN (bt s j) == kindN (bt s i)) s.size (s.size-i) i⟩ else ⟨2,i,fwdF (fun j=>kindN (bt s j) == kindN (bt s i)) s.size (s.size-i) i⟩
end Go.Proofs.Ytgigkiocdiffjab
namespace Go.Proofs.Ytgigkiocdiffjab
open Go.RowKit Veil
theorem Try.infoSpan:(Try.prog.info? 125).map (fun i=>(i.zero,i.size,i.bytes))=some (some (.agg #[.int .i64 0,.int .i64 0,.int .i64 0]),3,24):=by kernel_rfl
def spansTo (s:ByteArray) (k:Nat):List Sp:=((List.range k).map (spanF s)).filter fun x=>!(x.kind == 0)
theorem spansTo_yes {s:ByteArray} {k:Nat} (h:((spanF s k).kind == 0)=false):spansTo s (k+1)=spansTo s k++[spanF s k]:=by
 unfold spansTo;rw [List.range_succ,List.map_append,List.filter_append];simp [h]
theorem spansTo_no {s:ByteArray} {k:Nat} (h:((spanF s k).kind == 0)=true):spansTo s (k+1)=spansTo s k:=by
 unfold spansTo;rw [List.range_succ,List.map_append,List.filter_append];simp [h]
theorem spansTo_length (s:ByteArray) (k:Nat):(spansTo s k).length≤k:=by
 unfold spansTo
 have:=List.length_filter_le (fun x:Sp=>!(x.kind == 0)) ((List.range k).map (spanF s))
 simpa using this
theorem viewT_size (P:List Pl):(viewT P).size=P.length:=by unfold viewT;rw [textF_size];omega
end Go.Proofs.Ytgigkiocdiffjab
