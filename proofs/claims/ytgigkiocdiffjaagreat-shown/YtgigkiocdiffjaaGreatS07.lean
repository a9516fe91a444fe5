import Derived.Test.YtgigkiocdiffjaaGreatS02
import Derived.Test.YtgigkiocdiffjaaGreatS03
import Derived.Deep.RegionHeld
import Derived.Test.YtgigkiocdiffjaaGreatS01
import Derived.Laws.IdiomStrings
import Derived.Laws.Concat
import Derived.OwnWalk
import Derived.Deep.AppendLies
set_option maxRecDepth 100000
set_option maxHeartbeats 16000000
namespace Veil
structure Mk where
 kind:Nat
 level:Nat
 label:Nat
structure RC where
 b:Nat
 origin:Nat
 marks:List Mk
structure RA where
 kind:Int
 who:Int
 target:Int
 cells:Int
def goneB (c:Cfg) (d:Nat) (m:Mk):Bool:=(m.kind == 2) && c.le m.level d
def thereB (c:Cfg) (x:RC) (d:Nat):Bool:=!(x.marks.any (goneB c d)) && c.le x.origin d
def seenS (c:Cfg) (o d:Nat) (s:Nat × Bool) (m:Mk):Nat × Bool:=bif c.le m.level d then (bif m.kind == 3 then ((c.join s.1 m.label).toNat,false) else (bif m.kind == 4 then (o,true) else s)) else s
def seenF (c:Cfg) (x:RC) (d:Nat):Nat × Bool:=x.marks.foldl (seenS c x.origin d) (x.origin,false)
structure MkOk (c:Cfg) (m:Mk):Prop where
 level:m.level<c.n
 label:m.label<c.n
structure RCOk (c:Cfg) (x:RC):Prop where
 byte:x.b<256
 origin:x.origin<c.n
 marks:∀ m,m ∈ x.marks→MkOk c m
theorem any_snoc {α:Type} (p:α→Bool) (l:List α) (i:Nat) (a:α) (h:l[i]?=some a):(l.take (i+1)).any p=((l.take i).any p || p a):=by
 rw [List.take_add_one,h];simp
theorem any_mem {α:Type} (p:α→Bool) (l:List α) (i:Nat) (a:α) (h:l[i]?=some a) (hp:p a=true):l.any p=true:=
 List.any_eq_true.2 ⟨a,List.mem_of_getElem? h,hp⟩
end Veil
namespace Veil
theorem join_nat {c:Cfg} (h:¬ c.noLat) {a b:Nat} (ha:a<c.n) (hb:b<c.n):∃ j:Nat,j<c.n∧c.join a b=j:=by
 have hpos:0≤c.join a b:=Int.not_lt.1 fun h'=>h ⟨a,b,ha,hb,Or.inl h'⟩
 rcases firstN_cases (c.isJoin a b) c.n with⟨j,hj,_,_,h3⟩|⟨_,h2⟩
 ·exact⟨j,hj,h3⟩
 ·have:c.join a b=-1:=h2
  omega
end Veil
namespace Veil
theorem okL_nat' {c:Cfg} {a:Int} (hl:(c.n:Int)=c.labels) (h:okL c.labels a=true):∃ x:Nat,a=x∧x<c.n:=by
 simp only [okL,Bool.and_eq_true,decide_eq_true_eq] at h
 exact⟨a.toNat,by omega,by omega⟩
end Veil
namespace Go.Proofs.YtgigkiocdiffjaaGreat
open Go.RowKit Veil
section
variable {α:Type} (k:Nat) (f:α→List Value)
def SeqV (w:World) (v:Value) (l:List α):Prop:=
 ∃ ao cap b,v=.slice ao l.length cap∧(l=[]∨(ao=some ⟨b,0,none⟩∧b<w.heap.size))∧∀ i a,l[i]?=some a→∀ j,j<k→w.cell? ⟨b,i*k+j,none⟩=(f a)[j]?
variable {k f}
theorem SeqV.below {w w':World} {v:Value} {l:List α} (h:SeqV k f w v l) (hb:Below w.heap.size w w'):SeqV k f w' v l:=by
 obtain⟨ao,cap,b,h1,h2,h3⟩:=h
 refine⟨ao,cap,b,h1,h2.imp id (fun h=>⟨h.1,Nat.lt_of_lt_of_le h.2 hb.size⟩),fun i a hi j hj=>?_⟩
 have hl:b<w.heap.size:=by
  rcases h2 with rfl|h2
  ·simp at hi
  ·exact h2.2
 exact (hb.cell (p:=⟨b,i*k+j,none⟩) hl).trans (h3 i a hi j hj)
end
def markV (m:Mk):List Value:=[.int .i64 m.kind,.int .i64 m.level,.int .i64 m.label]
def RBox (w:World) (g:Nat) (c:Cfg) (v:CfgV) (rv av:Value):Prop:=
 w.heap[g]?=some (.cells #[.int .i64 c.labels,.slice v.ea c.edges.length v.ec,.slice v.ra c.rules.length v.rc,.slice v.ga c.grants.length v.gc,rv,av] 153 (0,0))
section
variable {w w':World} {g B:Nat} {c:Cfg} {v:CfgV} {rv av:Value}
theorem RBox.below (h:RBox w g c v rv av) (hb:Below B w w') (hg:g<B):RBox w' g c v rv av:=Below.row hb h hg
theorem RBox.lt (h:RBox w g c v rv av):g<w.heap.size:=lt_of_row h
theorem RBox.cells (h:RBox w g c v rv av):w.cell? ⟨g,0,none⟩=some (.int .i64 c.labels)∧w.cell? ⟨g,1,none⟩=some (.slice v.ea c.edges.length v.ec)∧w.cell? ⟨g,2,none⟩=some (.slice v.ra c.rules.length v.rc)∧w.cell? ⟨g,3,none⟩=some (.slice v.ga c.grants.length v.gc):=
 ⟨by rw [cell_of_row _ _ _ _ _ _ h];rfl,by rw [cell_of_row _ _ _ _ _ _ h];rfl,by rw [cell_of_row _ _ _ _ _ _ h];rfl,by rw [cell_of_row _ _ _ _ _ _ h];rfl⟩
theorem RBox.row (h:RBox w g c v rv av):w.cell? ⟨g,4,none⟩=some rv:=by rw [cell_of_row _ _ _ _ _ _ h];rfl
theorem RBox.acts (h:RBox w g c v rv av):w.cell? ⟨g,5,none⟩=some av:=by rw [cell_of_row _ _ _ _ _ _ h];rfl
end
end Go.Proofs.YtgigkiocdiffjaaGreat
namespace Go.Proofs.YtgigkiocdiffjaaGreat
open Go.RowKit Veil
end Go.Proofs.YtgigkiocdiffjaaGreat
namespace Go.Proofs.YtgigkiocdiffjaaGreat
open Go.RowKit Veil
end Go.Proofs.YtgigkiocdiffjaaGreat
namespace Go.Proofs.YtgigkiocdiffjaaGreat
section
variable {P:Program} {ops:Array Oper} {Q:Exit→Act→World→Prop} {md:Region.Mode} {S:World→Prop} {fuel:Nat} {listed:Array Bool} {a:Act} {w:World}
theorem takeU (i:Nat) (d:Option Tmp) (hd:(ops[i]?).map (·.dst)=some d) (hw:((ops[i]?).map fun o=>Region.wanted o (yielded ops a.tmps))=some false)
  (hs:Region.noSelect ops=true) (hf:Region.free md ops listed i=true) (hr:(Region.ready md ops listed).contains i=true)
  (hQ:∀ c a w,Q (.panic c) (a.put d undef) w→Q (.panic c) a w) (hS:S w)
  (h:wpAnyH P md ops Q S fuel (listed.setIfInBounds i true) (a.put d undef) w):wpAnyH P md ops Q S (fuel+1) listed a w:=by
 cases ho:ops[i]? with
 | none=>rw [ho] at hd;cases hd
 | some o=>
  rw [ho] at hd hw
  obtain rfl:=Option.some.inj hd
  exact wpAnyH_take ho hs hf hr hQ (Or.inr ⟨Option.some.inj hw,rfl⟩) hS h
theorem takeW (i:Nat) (d:Option Tmp) (v:Value) (hd:(ops[i]?).map (·.dst)=some d) (hw:((ops[i]?).map fun o=>Region.wanted o (yielded ops a.tmps))=some true)
  (hs:Region.noSelect ops=true) (hf:Region.free md ops listed i=true) (hr:(Region.ready md ops listed).contains i=true)
  (hQ:∀ c a w,Q (.panic c) (a.put d v) w→Q (.panic c) a w) (hy:∀ o,ops[i]?=some o→∀ w,S w→(execOp a.eval o).run P w=.ok (.value v) w) (hS:S w)
  (h:wpAnyH P md ops Q S fuel (listed.setIfInBounds i true) (a.put d v) w):wpAnyH P md ops Q S (fuel+1) listed a w:=by
 cases ho:ops[i]? with
 | none=>rw [ho] at hd;cases hd
 | some o=>
  rw [ho] at hd hw
  obtain rfl:=Option.some.inj hd
  exact wpAnyH_take ho hs hf hr hQ (Or.inl ⟨Option.some.inj hw,hy o ho⟩) hS h
theorem tW (i:Nat) (d:Tmp) (v:Value) (hy:∀ o,ops[i]?=some o→∀ w,S w→(execOp a.eval o).run P w=.ok (.value v) w) (h:wpAnyH P md ops Q S fuel (listed.setIfInBounds i true) (a.put (some d) v) w) (hS:S w:=by assumption) (hd:(ops[i]?).map (·.dst)=some (some d):=by exact rfl) (hw:((ops[i]?).map fun o=>Region.wanted o (yielded ops a.tmps))=some true:=by exact rfl)
  (hs:Region.noSelect ops=true:=by kernel_rfl) (hf:Region.free md ops listed i=true:=by kernel_rfl) (hr:(Region.ready md ops listed).contains i=true:=by kernel_rfl)
  (hQ:∀ c a w,Q (.panic c) (a.put (some d) v) w→Q (.panic c) a w:=by exact fun _ _ _ h=>h):wpAnyH P md ops Q S (fuel+1) listed a w:=takeW i (some d) v hd hw hs hf hr hQ hy hS h
theorem tV (i:Nat) (d:Tmp) {v:Value} (h:wpAnyH P md ops Q S fuel (listed.setIfInBounds i true) (a.put (some d) v) w) (hy:∀ o,ops[i]?=some o→∀ w,S w→(execOp a.eval o).run P w=.ok (.value v) w:=by (intro o ho w hSw;obtain rfl:=Option.some.inj ho;clear ho;(try dsimp only at hSw);go_simp;try (with_reducible rfl))) (hS:S w:=by assumption) (hd:(ops[i]?).map (·.dst)=some (some d):=by exact rfl) (hw:((ops[i]?).map fun o=>Region.wanted o (yielded ops a.tmps))=some true:=by exact rfl)
  (hs:Region.noSelect ops=true:=by kernel_rfl) (hf:Region.free md ops listed i=true:=by kernel_rfl) (hr:(Region.ready md ops listed).contains i=true:=by kernel_rfl)
  (hQ:∀ c a w,Q (.panic c) (a.put (some d) v) w→Q (.panic c) a w:=by exact fun _ _ _ h=>h):wpAnyH P md ops Q S (fuel+1) listed a w:=takeW i (some d) v hd hw hs hf hr hQ hy hS h
end
theorem lA {α:Type} (l:List α) (i:Nat) (a:α):l.toArray.setIfInBounds i a=(l.set i a).toArray:=List.setIfInBounds_toArray _ _ _
theorem lZ {α:Type} {l:List α} {a b:α}:(a :: l).set 0 b=b :: l:=List.set_cons_zero
theorem lS {α:Type} {l:List α} {n:Nat} {a b:α}:(a :: l).set (n+1) b=a :: l.set n b:=List.set_cons_succ
end Go.Proofs.YtgigkiocdiffjaaGreat
namespace Go.Proofs.YtgigkiocdiffjaaGreat
open Go.RowKit Veil
def kindN (b:Nat):Nat:=if 97≤b∧b≤122 then 97 else if 48≤b∧b≤57 then 48 else 0
def strikes (c:Cfg) (text:ByteArray) (d:Nat) (r:ByteArray × Int):Bool:=cutB (bytes r.1) (bytes text) && !c.le r.2 d
def struckB (c:Cfg) (text:ByteArray) (d:Nat):Bool:=c.rules.any (strikes c text d)
end Go.Proofs.YtgigkiocdiffjaaGreat
namespace Veil
def backF (p:Nat→Bool):Nat→Nat
 | 0=>0
 | f+1=>bif p f then backF p f else f+1
def fwdF (p:Nat→Bool) (m:Nat):Nat→Nat→Nat
 | 0,t=>t
 | f+1,t=>bif decide (t<m) && p t then fwdF p m f (t+1) else t
theorem backF_yes {p:Nat→Bool} {f:Nat} (h:p f=true):backF p (f+1)=backF p f:=by simp [backF,h]
theorem backF_no {p:Nat→Bool} {f:Nat} (h:p f=false):backF p (f+1)=f+1:=by simp [backF,h]
theorem backF_le (p:Nat→Bool) (i:Nat):backF p i≤i:=by
 induction i with
 | zero=>exact Nat.le_refl _
 | succ f ih=>unfold backF;cases p f <;> simp;omega
theorem fwdF_yes {p:Nat→Bool} {m t:Nat} (ht:t<m) (h:p t=true):fwdF p m (m-t) t=fwdF p m (m-(t+1)) (t+1):=by
 obtain⟨k,hk⟩:∃ k,m-t=k+1:=⟨m-t-1,by omega⟩
 rw [hk,show m-(t+1)=k by omega,fwdF];simp [ht,h]
theorem fwdF_no {p:Nat→Bool} {m t:Nat} (h:p t=false):fwdF p m (m-t) t=t:=by
 cases hk:m-t with
 | zero=>rfl
 | succ k=>rw [fwdF];simp [h]
theorem fwdF_end {p:Nat→Bool} {m:Nat}:fwdF p m (m-m) m=m:=by rw [Nat.sub_self];rfl
def textF (f:Nat→Nat) (a b:Nat):ByteArray:=⟨((List.range' a (b-a)).map fun j=>UInt8.ofNat (f j)).toArray⟩
theorem textF_size (f:Nat→Nat) (a b:Nat):(textF f a b).size=b-a:=by simp [textF,ByteArray.size]
def isAt (K:Nat→Nat) (H:Nat→Bool) (k j:Nat):Bool:=!H j && (K j == k)
structure Piece where
 lo:Nat
 hi:Nat
 text:ByteArray
def pieceF (K B:Nat→Nat) (H:Nat→Bool) (m i:Nat):Piece:=
 bif H i || (K i == 0) then ⟨i,i,ByteArray.empty⟩ else
  let lo:=backF (isAt K H (K i)) i
  let hi:=fwdF (isAt K H (K i)) m (m-lo) lo
  ⟨lo,hi,textF B lo hi⟩
end Veil
namespace Go.Proofs.YtgigkiocdiffjaaGreat
open Go.RowKit Veil
structure Reads (w:World) (g rb rn rc ab ac hb hc m:Nat) (A B:Nat→Nat) (H:Nat→Bool):Prop where
 row:w.cell? ⟨g,4,none⟩=some (.slice (some ⟨rb,0,none⟩) rn rc)
 at_:∀ j,j<m→w.cell? ⟨ab,j,none⟩=some (.int .i64 (A j))∧A j<rn
 hid:∀ j,j<m→w.cell? ⟨hb,j,none⟩=some (.bool (H j))
 byte:∀ r,r<rn→w.cell? ⟨rb,r*3,none⟩=some (.int .u8 (B r))
 g:g<w.heap.size
 rb:rb<w.heap.size
 ab:ab<w.heap.size
 hb:hb<w.heap.size
theorem Reads.below {w w':World} {g rb rn rc ab ac hb hc m:Nat} {A B:Nat→Nat} {H:Nat→Bool} (h:Reads w g rb rn rc ab ac hb hc m A B H) (hb':Below w.heap.size w w'):Reads w' g rb rn rc ab ac hb hc m A B H:=
 ⟨(hb'.cell (p:=⟨g,4,none⟩) h.g).trans h.row,fun j hj=>⟨(hb'.cell (p:=⟨ab,j,none⟩) h.ab).trans (h.at_ j hj).1,(h.at_ j hj).2⟩,fun j hj=>(hb'.cell (p:=⟨hb,j,none⟩) h.hb).trans (h.hid j hj),fun r hr=>(hb'.cell (p:=⟨rb,r*3,none⟩) h.rb).trans (h.byte r hr),
  Nat.lt_of_lt_of_le h.g hb'.size,Nat.lt_of_lt_of_le h.rb hb'.size,Nat.lt_of_lt_of_le h.ab hb'.size,Nat.lt_of_lt_of_le h.hb hb'.size⟩
end Go.Proofs.YtgigkiocdiffjaaGreat
namespace Veil
def cellAt (row:List RC) (r:Nat):RC:=row.getD r ⟨0,0,[]⟩
def hidR (c:Cfg) (row:List RC) (d r:Nat):Bool:=!c.le (seenF c (cellAt row r) d).1 d
def atTo (c:Cfg) (row:List RC) (d k:Nat):List Nat:=(List.range k).filter fun r=>thereB c (cellAt row r) d
def hidTo (c:Cfg) (row:List RC) (d k:Nat):List Bool:=(atTo c row d k).map (hidR c row d)
theorem atTo_yes {c:Cfg} {row:List RC} {d k:Nat} (h:thereB c (cellAt row k) d=true):atTo c row d (k+1)=atTo c row d k++[k]:=by
 unfold atTo;rw [List.range_succ,List.filter_append];simp [h]
theorem atTo_no {c:Cfg} {row:List RC} {d k:Nat} (h:thereB c (cellAt row k) d=false):atTo c row d (k+1)=atTo c row d k:=by
 unfold atTo;rw [List.range_succ,List.filter_append];simp [h]
theorem atTo_length (c:Cfg) (row:List RC) (d k:Nat):(atTo c row d k).length≤k:=by
 unfold atTo
 have:=List.length_filter_le (fun r=>thereB c (cellAt row r) d) (List.range k)
 simpa using this
theorem atTo_lt {c:Cfg} {row:List RC} {d k r:Nat} (h:r ∈ atTo c row d k):r<k:=by
 unfold atTo at h;rw [List.mem_filter] at h;simpa using h.1
structure Pl where
 b:Nat
 first:Nat
 last:Nat
def setR (L:List Bool) (F:Nat→Bool) (lo:Nat):Nat→List Bool
 | 0=>L
 | n+1=>(setR L F lo n).set (lo+n) (F (lo+n))
theorem setR_length (L:List Bool) (F:Nat→Bool) (lo n:Nat):(setR L F lo n).length=L.length:=by
 induction n with
 | zero=>rfl
 | succ n ih=>simp [setR,ih]
def moreTo (pc:Nat→Piece) (st:Nat→Bool) (fr:Nat→Bool) (m:Nat):Nat→List Bool
 | 0=>List.replicate m false
 | k+1=>bif st k then setR (moreTo pc st fr m k) (fun j=>!fr j) (pc k).lo ((pc k).hi-(pc k).lo) else moreTo pc st fr m k
theorem moreTo_length (pc:Nat→Piece) (st:Nat→Bool) (fr:Nat→Bool) (m k:Nat):(moreTo pc st fr m k).length=m:=by
 induction k with
 | zero=>simp [moreTo]
 | succ k ih=>unfold moreTo;cases st k <;> simp [setR_length,ih]
def lastTo (l:List Pl) (x:Nat):List Pl:=l.modify (l.length-1) fun p=>⟨p.b,p.first,x⟩
def plTo (A B:Nat→Nat) (h:Nat→Bool):Nat→List Pl
 | 0=>[]
 | k+1=>bif h k then (bif decide (0<k) && h (k-1) then lastTo (plTo A B h k) (A k) else plTo A B h k++[⟨35,A k,A k⟩]) else plTo A B h k++[⟨B k,A k,A k⟩]
theorem plTo_length (A B:Nat→Nat) (h:Nat→Bool) (k:Nat):(plTo A B h k).length≤k∧(0<k→0<(plTo A B h k).length):=by
 induction k with
 | zero=>exact⟨Nat.le_refl _,fun h=>absurd h (Nat.lt_irrefl _)⟩
 | succ k ih=>
  unfold plTo
  cases hk:h k
  ·simp;omega
  ·cases hk':(decide (0<k) && h (k-1))
   ·simp;omega
   ·have:0<k:=by simp at hk';exact hk'.1
    simp [lastTo];omega
theorem backF_fwd_le (p:Nat→Bool) (m:Nat):∀ (f t:Nat),t≤m→fwdF p m f t≤m∧t≤fwdF p m f t
 | 0,t,h=>⟨h,Nat.le_refl _⟩
 | f+1,t,h=>by
  unfold fwdF
  cases hc:(decide (t<m) && p t)
  ·exact⟨h,Nat.le_refl _⟩
  ·have:t<m:=by simp at hc;exact hc.1
   have:=backF_fwd_le p m f (t+1) (by omega)
   exact⟨this.1,by simp only [cond_true];omega⟩
end Veil
namespace Veil
theorem seenS_lt {c:Cfg} (hl:¬ c.noLat) {o d:Nat} (ho:o<c.n) {s:Nat × Bool} (hs:s.1<c.n) {m:Mk} (hm:MkOk c m):(seenS c o d s m).1<c.n:=by
 unfold seenS
 cases c.le m.level d
 ·exact hs
 ·cases m.kind == 3
  ·cases m.kind == 4
   ·exact hs
   ·exact ho
  ·obtain⟨j,hj,e⟩:=join_nat hl hs hm.label
   simp only [cond_true,e]
   simpa using hj
theorem foldl_lt {c:Cfg} (hl:¬ c.noLat) {o d:Nat} (ho:o<c.n) (l:List Mk) (hm:∀ m,m ∈ l→MkOk c m):∀ s:Nat × Bool,s.1<c.n→(l.foldl (seenS c o d) s).1<c.n:=by
 induction l with
 | nil=>intro s hs;exact hs
 | cons a l ih=>intro s hs;exact ih (fun m h=>hm m (List.mem_cons_of_mem _ h)) _ (seenS_lt hl ho hs (hm a (List.mem_cons_self ..)))
theorem seenF_lt {c:Cfg} (hl:¬ c.noLat) {x:RC} (hx:RCOk c x) (d:Nat):(seenF c x d).1<c.n:=foldl_lt hl hx.origin _ hx.marks _ hx.origin
end Veil
namespace Veil
theorem lastTo_set {l:List Pl} {n:Nat} {p:Pl} (hn:l.length=n+1) (hp:l[n]?=some p) (x:Nat):lastTo l x=l.set n ⟨p.b,p.first,x⟩:=by
 have hlt:n<l.length:=by omega
 have he:l[n]=p:=by rw [List.getElem?_eq_getElem hlt] at hp;exact Option.some.inj hp
 unfold lastTo
 rw [hn,Nat.add_sub_cancel]
 apply List.ext_getElem?
 intro i
 rw [List.getElem?_modify,List.getElem?_set]
 by_cases h:n=i
 ·subst h;simp [hlt,he]
 ·simp [h]
end Veil
namespace Go.Proofs.YtgigkiocdiffjaaGreat
open Go.RowKit Veil
section
variable {α:Type}
def OwnL (e:TypeId) (sz:Nat) (f:α→List Value) (w:World) (B:Nat) (v:Value) (l:List α):Prop:=w.ownsRow B e sz v l.length (l.flatMap f)
variable {e:TypeId} {sz:Nat} {f:α→List Value} {w w':World} {B:Nat} {v:Value} {l:List α}
theorem OwnL.nil (e:TypeId) (sz:Nat) (f:α→List Value) (w:World) (B:Nat):OwnL e sz f w B (.slice none 0 0) []:=World.ownsRow_nil w B e sz
theorem grown_of_below (h:Below w.heap.size w w'):w.grownBy w' none:=⟨h.os,h.tape,h.output,h.size,fun k hk _=>h.block k hk⟩
theorem below_of_grown {b:Nat} {row:Option Nat} (hg:w.grownBy w' row) (hr:∀ k,row=some k→b≤k) (hb:b≤w.heap.size):Below b w w':=
 ⟨hg.os,hg.tape,hg.output,hg.size,fun k hk=>hg.block k (by omega) (fun e=>by have:=hr k e.symm;omega)⟩
theorem OwnL.below (h:OwnL e sz f w B v l) (hb:Below w.heap.size w w'):OwnL e sz f w' B v l:=by
 refine World.ownsRow.kept h (grown_of_below hb) ?_
 cases v.ownBlock <;> simp
theorem OwnL.kept {row:Option Nat} (h:OwnL e sz f w B v l) (hg:w.grownBy w' row) (hne:∀ k,v.ownBlock=some k→row=some k→False):OwnL e sz f w' B v l:=by
 refine World.ownsRow.kept h hg ?_
 cases hv:v.ownBlock with
 | none=>exact Or.inl rfl
 | some k=>exact Or.inr fun e=>hne k hv e.symm
theorem OwnL.shape (h:OwnL e sz f w B v l):∃ ao cap,v=.slice ao l.length cap:=by
 rcases h.2 with⟨h1,h2⟩|⟨g,cap,_,h1,_⟩
 ·exact⟨none,0,by rw [h1,h2]⟩
 ·exact⟨_,_,h1⟩
theorem OwnL.form (h:OwnL e sz f w B v l) (hn:0<l.length):∃ g cap,v=.slice (some ⟨g,0,none⟩) l.length cap∧B≤g∧g<w.heap.size:=World.ownsRow.form h hn
theorem OwnL.lt (h:OwnL e sz f w B v l) {k:Nat} (hk:v.ownBlock=some k):B≤k∧k<w.heap.size:=World.ownsRow.lt h k hk
theorem OwnL.mono (h:OwnL e sz f w B v l) {B':Nat} (hB:B'≤B):OwnL e sz f w B' v l:=by
 refine⟨h.1,h.2.imp id ?_⟩
 rintro ⟨g,cap,cur,h1,h2,h3⟩
 exact⟨g,cap,cur,h1,Nat.le_trans hB h2,h3⟩
theorem flat_get (hf:∀ a,(f a).length=sz):∀ (l:List α) (i:Nat) (a:α) (j:Nat),l[i]?=some a→j<sz→(l.flatMap f)[i*sz+j]?=(f a)[j]?
 | [],i,a,j,h,_=>by simp at h
 | b :: l,0,a,j,h,hj=>by
  simp at h;subst h
  simp only [List.flatMap_cons,Nat.zero_mul,Nat.zero_add]
  rw [List.getElem?_append_left (by rw [hf];exact hj)]
 | b :: l,i+1,a,j,h,hj=>by
  simp only [List.flatMap_cons]
  rw [List.getElem?_append_right (by rw [hf,Nat.add_mul];omega),hf,show (i+1)*sz+j-sz=i*sz+j by rw [Nat.add_mul];omega]
  exact flat_get hf l i a j (by simpa using h) hj
theorem OwnL.cell (hf:∀ a,(f a).length=sz) (h:OwnL e sz f w B v l) {g:Nat} (hg:v.ownBlock=some g) {i:Nat} {a:α} (hi:l[i]?=some a) {j:Nat} (hj:j<sz):w.cell? ⟨g,i*sz+j,none⟩=(f a)[j]?:=by
 have h1:=flat_get hf l i a j hi hj
 have hlt:j<(f a).length:=by rw [hf];exact hj
 have h2:(l.flatMap f)[i*sz+j]?=some (f a)[j]:=by rw [h1,List.getElem?_eq_getElem hlt]
 have h3:=World.ownsRow.cells h hg _ _ h2
 have hadd:(⟨g,0,none⟩:Addr).add (i*sz+j)=⟨g,i*sz+j,none⟩:=by unfold Addr.add;split <;> simp_all
 rw [hadd] at h3
 rw [h3,List.getElem?_eq_getElem hlt]
theorem OwnL.seqV (hf:∀ a,(f a).length=sz) (h:OwnL e sz f w B v l):SeqV sz f w v l:=by
 by_cases hn:0<l.length
 ·obtain⟨g,cap,hv,_,hg⟩:=h.form hn
  refine⟨some ⟨g,0,none⟩,cap,g,hv,Or.inr ⟨rfl,hg⟩,fun i a hi j hj=>h.cell hf (by rw [hv];rfl) hi hj⟩
 ·obtain⟨ao,cap,hv⟩:=h.shape
  exact⟨ao,cap,0,hv,Or.inl (List.eq_nil_of_length_eq_zero (by omega)),fun i a hi=>by rw [List.eq_nil_of_length_eq_zero (l:=l) (by omega)] at hi;simp at hi⟩
theorem wpList_push {P:Program} {ops:Array Oper} {rest:List Oper} {o:Oper} {act:Act} {Q:Exit→Act→World→Prop} (hgd:o.guard=none) (s x:Operand) (t:TypeId)
  (ho:o.op=.call { callee:=.builtin .append,args:=#[s,x],argTypes:=#[t,t] }) (z:Value) (bytes:Nat) (ht:P.underlying t=some (.slice e)) (hinfo:(P.info? e).map (fun i=>(i.zero,i.size,i.bytes))=some (some z,sz,bytes)) (hzs:z.cells.size=sz) (hsz:0<sz)
  (hs:act.eval s=v) (hown:OwnL e sz f w B v l) (h0 c:Nat) (a:α) (hx:act.eval x=.slice (some ⟨h0,0,none⟩) 1 c) (ty:TypeId) (fr:Nat × Nat) (hb0:w.heap[h0]?=some (.cells (f a).toArray ty fr)) (hfl:(f a).length=sz) (h1:∀ u ∈ f a,u.oneCell'=true)
  (hby:(l.length+1)*bytes≤140737488355328) (hb1:0<bytes) (hbase:B≤w.heap.size) (H:Nat) (hH:w.heap.size=H)
  (h:∀ g cap w',OwnL e sz f w' B (.slice (some ⟨g,0,none⟩) (l.length+1) cap) (l++[a])→w.grownBy w' v.ownBlock→(v.ownBlock=some g∨g=H)→g<w'.heap.size→wpList P ops Q rest (act.put o.dst (.slice (some ⟨g,0,none⟩) (l.length+1) cap)) w'):wpList P ops Q (o :: rest) act w:=by
 obtain⟨i,hi,hzz⟩:=Option.map_eq_some_iff.1 hinfo
 simp only [Prod.mk.injEq] at hzz
 obtain⟨hz,hsize,hbb⟩:=hzz
 have hle:l.length+1≤(l.length+1)*bytes:=Nat.le_mul_of_pos_right _ hb1
 refine wpList_append_lies w hgd s x t ho B e i z sz bytes ht hi hz hsize hbb hzs hsz v l.length (l.flatMap f) hs hown ⟨h0,0,none⟩ 1 c (f a) hx (by rw [hfl,Nat.one_mul]) (fun j u hu=>World.news_of_block hb0 j u (by simpa using hu)) h1 (by omega) (by simp only [maxLen];omega) hby hbase H hH ?_
 intro g cap w' h2 h3 h4 h5
 refine h g cap w' ?_ h3 h4 h5
 unfold OwnL
 rw [List.length_append,List.flatMap_append]
 simpa using h2
theorem step_push {P:Program} {ops:Array Oper} {o:Oper} {act:Act} {K:Act→World→Prop} {Q:Exit→Act→World→Prop} {E:Prop} (hgd:o.guard=none) (s x:Operand) (t:TypeId)
  (ho:o.op=.call { callee:=.builtin .append,args:=#[s,x],argTypes:=#[t,t] }) (z:Value) (bytes:Nat) (ht:P.underlying t=some (.slice e)) (hinfo:(P.info? e).map (fun i=>(i.zero,i.size,i.bytes))=some (some z,sz,bytes)) (hzs:z.cells.size=sz) (hsz:0<sz)
  (hs:act.eval s=v) (hown:OwnL e sz f w B v l) (h0 c:Nat) (a:α) (hx:act.eval x=.slice (some ⟨h0,0,none⟩) 1 c) (ty:TypeId) (fr:Nat × Nat) (hb0:w.heap[h0]?=some (.cells (f a).toArray ty fr)) (hfl:(f a).length=sz) (h1:∀ u ∈ f a,u.oneCell'=true)
  (hby:(l.length+1)*bytes≤140737488355328) (hb1:0<bytes) (hbase:B≤w.heap.size) (H:Nat) (hH:w.heap.size=H)
  (h:∀ g cap w',OwnL e sz f w' B (.slice (some ⟨g,0,none⟩) (l.length+1) cap) (l++[a])→w.grownBy w' v.ownBlock→(v.ownBlock=some g∨g=H)→g<w'.heap.size→K (act.put o.dst (.slice (some ⟨g,0,none⟩) (l.length+1) cap)) w') :
  if Region.wanted o (yielded ops act.tmps)=true then Oper.wp P o act w K Q else E:=by
 obtain⟨i,hi,hzz⟩:=Option.map_eq_some_iff.1 hinfo
 simp only [Prod.mk.injEq] at hzz
 obtain⟨hz,hsize,hbb⟩:=hzz
 have hle:l.length+1≤(l.length+1)*bytes:=Nat.le_mul_of_pos_right _ hb1
 refine step_append_lies w hgd s x t ho B e i z sz bytes ht hi hz hsize hbb hzs hsz v l.length (l.flatMap f) hs hown ⟨h0,0,none⟩ 1 c (f a) hx (by rw [hfl,Nat.one_mul]) (fun j u hu=>World.news_of_block hb0 j u (by simpa using hu)) h1 (by omega) (by simp only [maxLen];omega) hby hbase H hH ?_
 intro g cap w' h2 h3 h4 h5
 refine h g cap w' ?_ h3 h4 h5
 unfold OwnL
 rw [List.length_append,List.flatMap_append]
 simpa using h2
theorem OwnL.row {g:Nat} (h:OwnL e sz f w B v l) (hg:v.ownBlock=some g):∃ cap cur,v=.slice (some ⟨g,0,none⟩) l.length cap∧w.heap[g]?=some (.cells cur e (0,0))∧cur.size=cap*sz∧l.length≤cap∧cap≤maxLen∧cur.toList.take (l.length*sz)=l.flatMap f∧B≤g:=by
 rcases h.2 with⟨h1,_⟩|⟨g',cap,cur,h1,h2,h3,h4,h5,h6,h7⟩
 ·rw [h1] at hg;cases hg
 ·rw [h1] at hg
  obtain rfl:g'=g:=by simpa [Value.ownBlock] using hg
  exact⟨cap,cur,h1,h3,h6,h4,h5,h7,h2⟩
theorem flat_set (hf:∀ a,(f a).length=sz):∀ (l:List α) (i:Nat) (a a':α) (j:Nat) (u:Value),l[i]?=some a→j<sz→(f a).set j u=f a'→(l.flatMap f).set (i*sz+j) u=(l.set i a').flatMap f
 | [],i,a,a',j,u,h,_,_=>by simp at h
 | b :: l,0,a,a',j,u,h,hj,he=>by
  simp at h;subst h
  simp only [List.flatMap_cons,Nat.zero_mul,Nat.zero_add,List.set_cons_zero]
  rw [List.set_append_left _ _ (by rw [hf];exact hj),he]
 | b :: l,i+1,a,a',j,u,h,hj,he=>by
  simp only [List.flatMap_cons,List.set_cons_succ]
  rw [List.set_append_right _ _ (by rw [hf,Nat.add_mul];omega),hf,show (i+1)*sz+j-sz=i*sz+j by rw [Nat.add_mul];omega]
  rw [flat_set hf l i a a' j u (by simpa using h) hj he]
theorem OwnL.set (hf:∀ a,(f a).length=sz) (h:OwnL e sz f w B v l) {g:Nat} (hg:v.ownBlock=some g) {i:Nat} {a a':α} (hi:l[i]?=some a) {j:Nat} (hj:j<sz) {u:Value} (hu:(f a).set j u=f a'):OwnL e sz f (w.setCell ⟨g,i*sz+j,none⟩ u) B v (l.set i a'):=by
 obtain⟨cap,cur,hv,hr,hs,hl,hm,ht,hB⟩:=h.row hg
 have hil:i<l.length:=(List.getElem?_eq_some_iff.1 hi).1
 have hidx:i*sz+j<l.length*sz:=by
  have:(i+1)*sz≤l.length*sz:=Nat.mul_le_mul_right _ hil
  rw [Nat.add_mul] at this;omega
 have hfl:=flat_set hf l i a a' j u hi hj hu
 refine⟨?_,Or.inr ⟨g,cap,cur.setIfInBounds (i*sz+j) u,?_,hB,heap_setCell_same _ _ _ _ _ _ hr,?_,hm,?_,?_⟩⟩
 ·rw [← hfl,List.length_set,List.length_set];exact h.1
 ·rw [List.length_set];exact hv
 ·rw [List.length_set];exact hl
 ·rw [Array.size_setIfInBounds];exact hs
 ·rw [List.length_set,← hfl,← ht,Array.toList_setIfInBounds,List.take_set]
end
end Go.Proofs.YtgigkiocdiffjaaGreat
