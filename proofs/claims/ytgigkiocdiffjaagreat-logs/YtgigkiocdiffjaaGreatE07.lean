import Derived.Test.YtgigkiocdiffjaaGreatE02
import Derived.Test.YtgigkiocdiffjaaGreatE03
import Derived.Deep.RegionHeld
import Derived.Test.YtgigkiocdiffjaaGreatE01
set_option maxRecDepth 100000
set_option maxHeartbeats 16000000
namespace Veil
structure Mk where
 kind:Nat
 level:Nat
 label:Nat
structure RC where
 b:Nat
 origin:Nat
 marks:List Mk
structure RA where
 kind:Int
 who:Int
 target:Int
 cells:Int
def goneB (c:Cfg) (d:Nat) (m:Mk):Bool:=(m.kind == 2) && c.le m.level d
def thereB (c:Cfg) (x:RC) (d:Nat):Bool:=!(x.marks.any (goneB c d)) && c.le x.origin d
def seenS (c:Cfg) (o d:Nat) (s:Nat × Bool) (m:Mk):Nat × Bool:=bif c.le m.level d then (bif m.kind == 3 then ((c.join s.1 m.label).toNat,false) else (bif m.kind == 4 then (o,true) else s)) else s
def seenF (c:Cfg) (x:RC) (d:Nat):Nat × Bool:=x.marks.foldl (seenS c x.origin d) (x.origin,false)
structure MkOk (c:Cfg) (m:Mk):Prop where
 level:m.level<c.n
 label:m.label<c.n
structure RCOk (c:Cfg) (x:RC):Prop where
 byte:x.b<256
 origin:x.origin<c.n
 marks:∀ m,m ∈ x.marks→MkOk c m
theorem any_snoc {α:Type} (p:α→Bool) (l:List α) (i:Nat) (a:α) (h:l[i]?=some a):(l.take (i+1)).any p=((l.take i).any p || p a):=by
 rw [List.take_add_one,h];simp
theorem any_mem {α:Type} (p:α→Bool) (l:List α) (i:Nat) (a:α) (h:l[i]?=some a) (hp:p a=true):l.any p=true:=
 List.any_eq_true.2 ⟨a,List.mem_of_getElem? h,hp⟩
theorem foldl_snoc {α β:Type} (f:β→α→β) (z:β) (l:List α) (i:Nat) (a:α) (h:l[i]?=some a):(l.take (i+1)).foldl f z=f ((l.take i).foldl f z) a:=by
 rw [List.take_add_one,h];simp
end Veil
namespace Veil
theorem join_nat {c:Cfg} (h:¬ c.noLat) {a b:Nat} (ha:a<c.n) (hb:b<c.n):∃ j:Nat,j<c.n∧c.join a b=j:=by
 have hpos:0≤c.join a b:=Int.not_lt.1 fun h'=>h ⟨a,b,ha,hb,Or.inl h'⟩
 rcases firstN_cases (c.isJoin a b) c.n with⟨j,hj,_,_,h3⟩|⟨_,h2⟩
 ·exact⟨j,hj,h3⟩
 ·have:c.join a b=-1:=h2
  omega
def seenTo (c:Cfg) (o d:Nat) (l:List Mk) (k:Nat):Nat × Bool:=(l.take k).foldl (seenS c o d) (o,false)
theorem seenTo_succ (c:Cfg) (o d:Nat) (l:List Mk) (k:Nat) (m:Mk) (h:l[k]?=some m):seenTo c o d l (k+1)=seenS c o d (seenTo c o d l k) m:=foldl_snoc _ _ _ _ _ h
theorem seenTo_all (c:Cfg) (o d:Nat) (l:List Mk):seenTo c o d l l.length=l.foldl (seenS c o d) (o,false):=by rw [seenTo,List.take_length]
end Veil
namespace Veil
theorem okL_nat' {c:Cfg} {a:Int} (hl:(c.n:Int)=c.labels) (h:okL c.labels a=true):∃ x:Nat,a=x∧x<c.n:=by
 simp only [okL,Bool.and_eq_true,decide_eq_true_eq] at h
 exact⟨a.toNat,by omega,by omega⟩
end Veil
namespace Go.Proofs.YtgigkiocdiffjaaGreat
open Go.RowKit Veil
section
variable {α:Type} (k:Nat) (f:α→List Value)
def SeqV (w:World) (v:Value) (l:List α):Prop:=
 ∃ ao cap b,v=.slice ao l.length cap∧(l=[]∨(ao=some ⟨b,0,none⟩∧b<w.heap.size))∧∀ i a,l[i]?=some a→∀ j,j<k→w.cell? ⟨b,i*k+j,none⟩=(f a)[j]?
variable {k f}
theorem SeqV.below {w w':World} {v:Value} {l:List α} (h:SeqV k f w v l) (hb:Below w.heap.size w w'):SeqV k f w' v l:=by
 obtain⟨ao,cap,b,h1,h2,h3⟩:=h
 refine⟨ao,cap,b,h1,h2.imp id (fun h=>⟨h.1,Nat.lt_of_lt_of_le h.2 hb.size⟩),fun i a hi j hj=>?_⟩
 have hl:b<w.heap.size:=by
  rcases h2 with rfl|h2
  ·simp at hi
  ·exact h2.2
 exact (hb.cell (p:=⟨b,i*k+j,none⟩) hl).trans (h3 i a hi j hj)
end
def markV (m:Mk):List Value:=[.int .i64 m.kind,.int .i64 m.level,.int .i64 m.label]
def RBox (w:World) (g:Nat) (c:Cfg) (v:CfgV) (rv av:Value):Prop:=
 w.heap[g]?=some (.cells #[.int .i64 c.labels,.slice v.ea c.edges.length v.ec,.slice v.ra c.rules.length v.rc,.slice v.ga c.grants.length v.gc,rv,av] 153 (0,0))
section
variable {w w':World} {g B:Nat} {c:Cfg} {v:CfgV} {rv av:Value}
theorem RBox.below (h:RBox w g c v rv av) (hb:Below B w w') (hg:g<B):RBox w' g c v rv av:=Below.row hb h hg
theorem RBox.lt (h:RBox w g c v rv av):g<w.heap.size:=lt_of_row h
theorem RBox.cells (h:RBox w g c v rv av):w.cell? ⟨g,0,none⟩=some (.int .i64 c.labels)∧w.cell? ⟨g,1,none⟩=some (.slice v.ea c.edges.length v.ec)∧w.cell? ⟨g,2,none⟩=some (.slice v.ra c.rules.length v.rc)∧w.cell? ⟨g,3,none⟩=some (.slice v.ga c.grants.length v.gc):=
 ⟨by rw [cell_of_row _ _ _ _ _ _ h];rfl,by rw [cell_of_row _ _ _ _ _ _ h];rfl,by rw [cell_of_row _ _ _ _ _ _ h];rfl,by rw [cell_of_row _ _ _ _ _ _ h];rfl⟩
theorem RBox.row (h:RBox w g c v rv av):w.cell? ⟨g,4,none⟩=some rv:=by rw [cell_of_row _ _ _ _ _ _ h];rfl
theorem RBox.acts (h:RBox w g c v rv av):w.cell? ⟨g,5,none⟩=some av:=by rw [cell_of_row _ _ _ _ _ _ h];rfl
end
def rcC (x:RC) (mv:Value):Array Value:=#[.int .u8 x.b,.int .i64 x.origin,mv]
theorem rthere_any (c:Cfg) (v:CfgV) (rv av:Value) (g:Nat) (x:RC) (mv:Value) (d:Nat) (w:World) (hl:labelsB c=true) (hat:CfgAt w c v) (hbox:RBox w g c v rv av) (hm:SeqV 3 markV w mv x.marks) (hx:RCOk c x) (hd:d<c.n) (hln:x.marks.length≤140737488355328) :
  Calls Tryz.prog 168 #[.pointer (some ⟨g,0,none⟩),.agg (rcC x mv),.int .i64 d] w fun e w'=>e=.returned (.bool (thereB c x d))∧Below w.heap.size w w':=by
 have HLE:=hide (fun (a:Nat) (w':World) (ha:a<c.n) (hb:Below w.heap.size w w')=>rleq_any c v a d w' hl (hat.below hb) ha hd)
 obtain⟨ao,cap,mb,rfl,hao,hcm⟩:=hm
 have HO:=hide hx.origin
 have HMK:=hide hx.marks
 have HC:=hide hcm
 have HAO:=hide hao
 have HBX:=hide hbox
 have hgl:=hbox.lt
 obtain⟨xb,xo,xm⟩:=x
 simp only at HO HMK HC HAO hln
 have HX0:=hide (Go.heap_alloc_new w (.cells #[.int .u8 xb,.int .i64 xo,.slice ao xm.length cap] 223))
 have hbel0:=below_box w (.cells #[.int .u8 xb,.int .i64 xo,.slice ao xm.length cap] 223)
 clear hl hat hao hcm hx hbox
 unfold rcC cfgCells at *
 go_enter Tryz.func168,Tryz.ntmps168
 go_wp2
 go_loopw [7] (fun i wr=>∃ k:Nat,k≤xm.length∧i=.int .i64 k∧(xm.take k).any (goneB c d)=false∧wr.heap[w.heap.size]?=some (.cells #[.int .u8 xb,.int .i64 xo,.slice ao xm.length cap] 223 (0,0))∧Below w.heap.size w wr) (fun i _=>xm.length-(intOf i).toNat)
 case atStart=>exact⟨0,Nat.zero_le _,rfl,rfl,HX0.out,hbel0⟩
 case round=>
  clear HX0 hbel0
  obtain⟨wo,rfl⟩:∃ x,x=wr:=⟨_,rfl⟩
  obtain⟨k,hk,rfl,hno,hrow,hbel⟩:=hrel
  have HNO:=hide hno
  have HB:=hide hrow
  have b1:wo.cell? ⟨w.heap.size,1,none⟩=some (.int .i64 xo):=by rw [cell_of_row _ _ _ _ _ _ hrow];rfl
  have b2:wo.cell? ⟨w.heap.size,2,none⟩=some (.slice ao xm.length cap):=by rw [cell_of_row _ _ _ _ _ _ hrow];rfl
  have hnl:=lt_of_row hrow
  obtain⟨q0,q1,q2,q3⟩:=(HBX.out.below hbel hgl).cells
  have hgo:g<wo.heap.size:=Nat.lt_of_lt_of_le hgl hbel.size
  clear hno hrow
  by_cases hlt:k<xm.length
  ·have hne:xm≠[]:=fun e=>by rw [e] at hlt;simp at hlt
   obtain⟨hao,hmb⟩:=HAO.out.resolve_left hne
   subst hao
   have hej:xm[k]?=some xm[k]:=List.getElem?_eq_getElem hlt
   have c0:=HC.out k _ hej 0 (by omega)
   have c1:=HC.out k _ hej 1 (by omega)
   have hin:=HMK.out _ (List.getElem_mem hlt)
   have HS:=hide (any_snoc (goneB c d) xm k _ hej)
   have HM:=hide (any_mem (goneB c d) xm k _ hej)
   generalize xm[k]=mk at *
   obtain⟨mk1,mk2,mk3⟩:=mk
   obtain⟨m1,m2⟩:=hin
   have d0:wo.cell? ⟨mb,k*3,none⟩=some (.int .i64 mk1):=(hbel.cell (p:=⟨mb,k*3,none⟩) hmb).trans c0
   have d1:wo.cell? ⟨mb,k*3+1,none⟩=some (.int .i64 mk2):=(hbel.cell (p:=⟨mb,k*3+1,none⟩) hmb).trans c1
   have hmo:mb<wo.heap.size:=Nat.lt_of_lt_of_le hmb hbel.size
   have hili:(k:Int)<(xm.length:Int):=by omega
   simp only at m1 m2
   have HL2:=hide (HLE.out mk2 _ m1 hbel.drew)
   clear hej c0 c1 hne m2
   cases hk2:((mk1:Int) == 2)
   ·have hg:goneB c d ⟨mk1,mk2,mk3⟩=false:=by
     have:(mk1 == 2)=false:=by simpa using (show ¬ mk1=2 by have:=hk2;simp at this;omega)
     simp [goneB,this]
    have HG:=hide hg
    clear hg
    go_wp2_with fail
    go_quiet (fail)
    go_wp2
    go_roundw
    case rel=>exact⟨k+1,by omega,by go_num,by rw [HS.out,HNO.out,HG.out];rfl,HB.out,Below.drawn hbel _⟩
    case measure=>simp [intOf];omega
   ·obtain rfl:mk1=2:=by have:=hk2;simp at this;omega
    have hg:goneB c d ⟨2,mk2,mk3⟩=c.le mk2 d:=by simp [goneB]
    rw [hg] at HS HM
    clear hk2 hg
    go_wp2_with fail
    first|(go_region_held (fun w'=>w'.cell? ⟨w.heap.size,2,none⟩=some (.slice (some ⟨mb,0,none⟩) xm.length cap)∧w'.cell? ⟨mb,k*3,none⟩=some (.int .i64 2)∧w'.cell? ⟨mb,k*3+1,none⟩=some (.int .i64 mk2)∧w'.cell? ⟨g,0,none⟩=some (.int .i64 c.labels)∧w'.cell? ⟨g,1,none⟩=some (.slice v.ea c.edges.length v.ec)∧w'.cell? ⟨g,2,none⟩=some (.slice v.ra c.rules.length v.rc)∧w'.cell? ⟨g,3,none⟩=some (.slice v.ga c.grants.length v.gc)) (go_keep) (first|(go_at_call 102;refine (HL2.out).mono ?_;rintro e w2 ⟨rfl,hb2⟩;have s0:=(hb2.cell (p:=⟨w.heap.size,2,none⟩) hnl).trans b2;have s1:=(hb2.cell (p:=⟨mb,k*3,none⟩) hmo).trans d0;have s2:=(hb2.cell (p:=⟨mb,k*3+1,none⟩) hmo).trans d1;have s3:=(hb2.cell (p:=⟨g,0,none⟩) hgo).trans q0;have s4:=(hb2.cell (p:=⟨g,1,none⟩) hgo).trans q1;have s5:=(hb2.cell (p:=⟨g,2,none⟩) hgo).trans q2;have s6:=(hb2.cell (p:=⟨g,3,none⟩) hgo).trans q3)))|fail "no"
    have HB2:=hide (Below.row hb2 HB.out hnl)
    have hbel2:=hbel.drew.trans (hb2.mono hbel.drew.size)
    cases hle:c.le mk2 d
    ·rw [hle] at HS
     clear HM hle
     go_wp2
     go_roundw
     case rel=>exact⟨k+1,by omega,by go_num,by rw [HS.out,HNO.out];rfl,HB2.out,hbel2⟩
     case measure=>simp [intOf];omega
    ·have HT:=hide (HM.out hle)
     clear HS HM hle
     go_wp2
     go_ret
     exact⟨ret_bool (by simp [thereB,HT.out]),hbel2⟩
  ·obtain rfl:k=xm.length:=by omega
   have HN:=hide (show xm.any (goneB c d)=false by have:=HNO.out;rwa [List.take_length] at this)
   have HL2:=hide (HLE.out xo _ HO.out hbel.drew)
   go_wp2_with fail
   first|(go_region_held (fun w'=>w'.cell? ⟨w.heap.size,1,none⟩=some (.int .i64 xo)∧w'.cell? ⟨g,0,none⟩=some (.int .i64 c.labels)∧w'.cell? ⟨g,1,none⟩=some (.slice v.ea c.edges.length v.ec)∧w'.cell? ⟨g,2,none⟩=some (.slice v.ra c.rules.length v.rc)∧w'.cell? ⟨g,3,none⟩=some (.slice v.ga c.grants.length v.gc)) (go_keep) (first|(go_at_call 102;refine (HL2.out).mono ?_;rintro e w2 ⟨rfl,hb2⟩;have s0:=(hb2.cell (p:=⟨w.heap.size,1,none⟩) hnl).trans b1;have s3:=(hb2.cell (p:=⟨g,0,none⟩) hgo).trans q0;have s4:=(hb2.cell (p:=⟨g,1,none⟩) hgo).trans q1;have s5:=(hb2.cell (p:=⟨g,2,none⟩) hgo).trans q2;have s6:=(hb2.cell (p:=⟨g,3,none⟩) hgo).trans q3)))|fail "no"
   have hbel2:=hbel.drew.trans (hb2.mono hbel.drew.size)
   go_wp2
   go_ret
   exact⟨ret_bool (by simp [thereB,HN.out]),hbel2⟩
end Go.Proofs.YtgigkiocdiffjaaGreat
namespace Go.Proofs.YtgigkiocdiffjaaGreat
open Go.RowKit Veil
theorem rseen_any (c:Cfg) (v:CfgV) (rv av:Value) (g:Nat) (x:RC) (mv:Value) (d:Nat) (w:World) (hl:labelsB c=true) (hnl:¬ c.noLat) (hat:CfgAt w c v) (hbox:RBox w g c v rv av) (hm:SeqV 3 markV w mv x.marks) (hx:RCOk c x) (hd:d<c.n) (hln:x.marks.length≤140737488355328) :
  Calls Tryz.prog 169 #[.pointer (some ⟨g,0,none⟩),.agg (rcC x mv),.int .i64 d] w fun e w'=>e=.returned (.tuple #[.int .i64 (seenF c x d).1,.bool (seenF c x d).2])∧Below w.heap.size w w':=by
 have HLE:=hide (fun (a:Nat) (w':World) (ha:a<c.n) (hb:Below w.heap.size w w')=>rleq_any c v a d w' hl (hat.below hb) ha hd)
 have HJO:=hide (fun (a b:Nat) (w':World) (ha:a<c.n) (hb':b<c.n) (hb:Below w.heap.size w w')=>rjoin_any c v a b w' hl (hat.below hb) ha hb')
 have HJN:=hide (fun (a b:Nat) (ha:a<c.n) (hb:b<c.n)=>join_nat hnl ha hb)
 obtain⟨ao,cap,mb,rfl,hao,hcm⟩:=hm
 have HO:=hide hx.origin
 have HMK:=hide hx.marks
 have HC:=hide hcm
 have HAO:=hide hao
 have HBX:=hide hbox
 have hgl:=hbox.lt
 obtain⟨xb,xo,xm⟩:=x
 simp only at HO HMK HC HAO hln
 have HSF:=hide (show seenF c ⟨xb,xo,xm⟩ d=seenTo c xo d xm xm.length from (seenTo_all c xo d xm).symm)
 have HX0:=hide (Go.heap_alloc_new w (.cells #[.int .u8 xb,.int .i64 xo,.slice ao xm.length cap] 223))
 have hbel0:=below_box w (.cells #[.int .u8 xb,.int .i64 xo,.slice ao xm.length cap] 223)
 clear hl hnl hat hao hcm hx hbox
 unfold rcC cfgCells at *
 go_enter Tryz.func169,Tryz.ntmps169
 go_wp2
 go_loopw [8,9,10] (fun l fr i wr=>∃ k s1:Nat,∃ s2,k≤xm.length∧i=.int .i64 k∧l=.int .i64 s1∧fr=.bool s2∧seenTo c xo d xm k=(s1,s2)∧s1<c.n∧wr.heap[w.heap.size]?=some (.cells #[.int .u8 xb,.int .i64 xo,.slice ao xm.length cap] 223 (0,0))∧Below w.heap.size w wr) (fun _ _ i _=>xm.length-(intOf i).toNat)
 case atStart=>exact⟨0,xo,false,Nat.zero_le _,rfl,rfl,rfl,rfl,HO.out,HX0.out,hbel0⟩
 case round=>
  clear HX0 hbel0
  obtain⟨wo,rfl⟩:∃ x,x=wr:=⟨_,rfl⟩
  obtain⟨k,s1,s2,hk,rfl,rfl,rfl,hst,hs1,hrow,hbel⟩:=hrel
  have HST:=hide hst
  have HB:=hide hrow
  have b1:wo.cell? ⟨w.heap.size,1,none⟩=some (.int .i64 xo):=by rw [cell_of_row _ _ _ _ _ _ hrow];rfl
  have b2:wo.cell? ⟨w.heap.size,2,none⟩=some (.slice ao xm.length cap):=by rw [cell_of_row _ _ _ _ _ _ hrow];rfl
  have hnl:=lt_of_row hrow
  have hgo:g<wo.heap.size:=Nat.lt_of_lt_of_le hgl hbel.size
  clear hst hrow
  by_cases hlt:k<xm.length
  ·have hne:xm≠[]:=fun e=>by rw [e] at hlt;simp at hlt
   obtain⟨hao,hmb⟩:=HAO.out.resolve_left hne
   subst hao
   have hej:xm[k]?=some xm[k]:=List.getElem?_eq_getElem hlt
   have c0:=HC.out k _ hej 0 (by omega)
   have c1:=HC.out k _ hej 1 (by omega)
   have c2:=HC.out k _ hej 2 (by omega)
   have hin:=HMK.out _ (List.getElem_mem hlt)
   have HS:=hide (seenTo_succ c xo d xm k _ hej)
   generalize xm[k]=mk at *
   obtain⟨mk1,mk2,mk3⟩:=mk
   obtain⟨m1,m2⟩:=hin
   have d0:wo.cell? ⟨mb,k*3,none⟩=some (.int .i64 mk1):=(hbel.cell (p:=⟨mb,k*3,none⟩) hmb).trans c0
   have d1:wo.cell? ⟨mb,k*3+1,none⟩=some (.int .i64 mk2):=(hbel.cell (p:=⟨mb,k*3+1,none⟩) hmb).trans c1
   have d2:wo.cell? ⟨mb,k*3+2,none⟩=some (.int .i64 mk3):=(hbel.cell (p:=⟨mb,k*3+2,none⟩) hmb).trans c2
   have hili:(k:Int)<(xm.length:Int):=by omega
   simp only at m1 m2
   have hbA:Below w.heap.size w (wo.alloc (.cells #[.int .i64 mk1,.int .i64 mk2,.int .i64 mk3] 230)):=hbel.alloc hbel.size _
   have HMA:=hide (Go.heap_alloc_new wo (.cells #[.int .i64 mk1,.int .i64 mk2,.int .i64 mk3] 230))
   have HBA:Hid ((wo.alloc (.cells #[.int .i64 mk1,.int .i64 mk2,.int .i64 mk3] 230)).heap[w.heap.size]?=some (.cells #[.int .u8 xb,.int .i64 xo,.slice (some ⟨mb,0,none⟩) xm.length cap] 223 (0,0))):=row_alloc' HB.out
   have HGA:=hide (HBX.out.below hbA hgl)
   obtain⟨q0,q1,q2,q3⟩:=HGA.out.cells
   have qm1:(wo.alloc (.cells #[.int .i64 mk1,.int .i64 mk2,.int .i64 mk3] 230)).cell? ⟨wo.heap.size,1,none⟩=some (.int .i64 mk2):=by rw [cell_of_row _ _ _ _ _ _ HMA.out];rfl
   have HL2:=hide (HLE.out mk2 _ m1 hbA.drew)
   clear hej c0 c1 c2 hne
   go_wp2_with fail
   first|(go_region_held (fun w'=>w'.cell? ⟨wo.heap.size,1,none⟩=some (.int .i64 mk2)∧w'.cell? ⟨g,0,none⟩=some (.int .i64 c.labels)∧w'.cell? ⟨g,1,none⟩=some (.slice v.ea c.edges.length v.ec)∧w'.cell? ⟨g,2,none⟩=some (.slice v.ra c.rules.length v.rc)∧w'.cell? ⟨g,3,none⟩=some (.slice v.ga c.grants.length v.gc)) (go_keep) (first|(go_at_call 102;refine (HL2.out).mono ?_;rintro e w2 ⟨rfl,hb2⟩;have HG2:=hide (show RBox w2 g c v rv av from Below.row hb2 HGA.out HGA.out.lt);have HM2:=hide (Below.row hb2 HMA.out (lt_of_row HMA.out));obtain⟨s0,s1',s2',s3⟩:=HG2.out.cells;have s4:w2.cell? ⟨wo.heap.size,1,none⟩=some (.int .i64 mk2):=by rw [cell_of_row _ _ _ _ _ _ HM2.out];rfl)))|fail "no"
   have HB2:=hide (Below.row hb2 HBA.out (lt_of_row HBA.out))
   have hbel2:=hbA.drew.trans (hb2.mono hbA.drew.size)
   have e0:w2.cell? ⟨wo.heap.size,0,none⟩=some (.int .i64 mk1):=by rw [cell_of_row _ _ _ _ _ _ HM2.out];rfl
   have e2:w2.cell? ⟨wo.heap.size,2,none⟩=some (.int .i64 mk3):=by rw [cell_of_row _ _ _ _ _ _ HM2.out];rfl
   have f1:w2.cell? ⟨w.heap.size,1,none⟩=some (.int .i64 xo):=by rw [cell_of_row _ _ _ _ _ _ HB2.out];rfl
   clear hb2 qm1 q0 q1 q2 q3 b1 b2 d0 d1 d2
   rw [HST.out] at HS
   cases hle:c.le mk2 d
   ·have HT:=hide (show seenTo c xo d xm (k+1)=(s1,s2) by rw [HS.out];simp [seenS,hle])
    clear hle
    go_wp2
    go_roundw
    case rel=>exact⟨k+1,s1,s2,by omega,by go_num,rfl,rfl,HT.out,hs1,HB2.out,hbel2⟩
    case measure=>simp [intOf];omega
   ·cases h3:((mk1:Int) == 3)
    ·have h3':(mk1 == 3)=false:=by simpa using (show ¬ mk1=3 by have:=h3;simp at this;omega)
     cases h4:((mk1:Int) == 4)
     ·have h4':(mk1 == 4)=false:=by simpa using (show ¬ mk1=4 by have:=h4;simp at this;omega)
      have HT:=hide (show seenTo c xo d xm (k+1)=(s1,s2) by rw [HS.out];simp [seenS,hle,h3',h4'])
      clear hle h3' h4'
      go_wp2
      go_roundw
      case rel=>exact⟨k+1,s1,s2,by omega,by go_num,rfl,rfl,HT.out,hs1,HB2.out,hbel2⟩
      case measure=>simp [intOf];omega
     ·have h4':(mk1 == 4)=true:=by simpa using (show mk1=4 by have:=h4;simp at this;omega)
      have HT:=hide (show seenTo c xo d xm (k+1)=(xo,true) by rw [HS.out];simp [seenS,hle,h3',h4'])
      clear hle h3' h4'
      go_wp2
      go_roundw
      case rel=>exact⟨k+1,xo,true,by omega,by go_num,rfl,rfl,HT.out,HO.out,HB2.out,hbel2⟩
      case measure=>simp [intOf];omega
    ·have h3':(mk1 == 3)=true:=by simpa using (show mk1=3 by have:=h3;simp at this;omega)
     obtain⟨j,hj,hjj⟩:=HJN.out s1 mk3 hs1 m2
     have HT:=hide (show seenTo c xo d xm (k+1)=(j,false) by rw [HS.out];simp [seenS,hle,h3',hjj])
     have HJ2:=hide (HJO.out s1 mk3 w2.drew hs1 m2 hbel2.drew)
     rw [hjj] at HJ2
     clear hle h3' hjj
     go_wp2_with fail
     first|(go_region_held (fun w'=>w'.cell? ⟨wo.heap.size,2,none⟩=some (.int .i64 mk3)∧w'.cell? ⟨g,0,none⟩=some (.int .i64 c.labels)∧w'.cell? ⟨g,1,none⟩=some (.slice v.ea c.edges.length v.ec)∧w'.cell? ⟨g,2,none⟩=some (.slice v.ra c.rules.length v.rc)∧w'.cell? ⟨g,3,none⟩=some (.slice v.ga c.grants.length v.gc)) (go_keep) (first|(go_at_call 103;refine (HJ2.out).mono ?_;rintro e w3 ⟨rfl,hb3⟩;obtain⟨t0,t1,t2,t3⟩:=(show RBox w3 g c v rv av from Below.row hb3 HG2.out HG2.out.lt).cells;have t4:w3.cell? ⟨wo.heap.size,2,none⟩=some (.int .i64 mk3):=by rw [cell_of_row _ _ _ _ _ _ (Below.row hb3 HM2.out (lt_of_row HM2.out))];rfl)))|fail "no"
     have HB3:=hide (Below.row hb3 HB2.out (lt_of_row HB2.out))
     have hbel3:=hbel2.drew.trans (hb3.mono hbel2.drew.size)
     go_wp2
     go_roundw
     case rel=>exact⟨k+1,j,false,by omega,by go_num,rfl,rfl,HT.out,hj,HB3.out,hbel3⟩
     case measure=>simp [intOf];omega
  ·obtain rfl:k=xm.length:=by omega
   have HR:=hide (show seenF c ⟨xb,xo,xm⟩ d=(s1,s2) by rw [HSF.out,HST.out])
   go_wp2
   go_ret2
   exact⟨by rw [HR.out];rfl,hbel⟩
end Go.Proofs.YtgigkiocdiffjaaGreat
namespace Go.Proofs.YtgigkiocdiffjaaGreat
open Go.RowKit Veil
theorem some_beq (s t:ByteArray) (i k:Nat) (hi:i<s.size) (hk:k<t.size):(some s[i] == (bytes t)[k]?)=(s[i] == t[k]):=by
 rw [List.getElem?_eq_getElem (by rw [bytes_length];exact hk),bytes_get t k hk];rfl
theorem row_alloc {w:World} {g:Nat} {o o':Obj} (h:w.heap[g]?=some o):(w.alloc o').heap[g]?=some o:=by
 rw [heap_alloc_old _ _ (lt_of_row h)];exact h
theorem rmatch_any (s t:ByteArray) (w:World) (hs:s.size≤maxLen) (ht:t.size≤140737488355328) :
  Calls Tryz.prog 79 #[.string s,.string t] w fun e w'=>e=.returned (.bool (cutB (bytes s) (bytes t)))∧Below w.heap.size w w':=by
 unfold maxLen at hs
 have hmk:∀ w,(Instr.makeSlice 195 (.int .i64 ((t.size:Int)+1)) (.int .i64 ((t.size:Int)+1))).run Tryz.prog w=.ok (.slice (some ⟨w.heap.size,0,none⟩) (t.size+1) (t.size+1)) (w.alloc (.cells (bools (fvec (t.size+1) fun _=>false)) 4)):=fun w=>run_make_bools (t.size+1) (by omega) w
 have hz0:(bools (fvec (t.size+1) fun _=>false))[0]?=some (.bool false):=by rw [bools_get,fvec_get _ _ _ (by omega)];rfl
 go_enter Tryz.func79,Tryz.ntmps79
 go_wp2
 have HT:Hid _:=bytes_length t
 go_loopw [5,6] (fun r i wr=>∃ k R:Nat,k≤s.size∧i=.int .i64 k∧r=.slice (some ⟨R,0,none⟩) (t.size+1) (t.size+1)∧w.heap.size≤R ∧
   wr.heap[R]?=some (.cells (bools (fvec (t.size+1) (reachF ((bytes s).take k) (bytes t)))) 4 (0,0))∧Below w.heap.size w wr) (fun _ i _=>s.size-(intOf i).toNat)
 case atStart=>
  refine⟨0,w.heap.size,Nat.zero_le _,rfl,rfl,Nat.le_refl _,?_,(Below.refl _ _).alloc (Nat.le_refl _) _⟩
  rw [Go.heap_alloc_new,bools_set,fvec_set,fvec_congr _ _ (reachF ((bytes s).take 0) (bytes t))]
  intro j hj
  simp only [reachF,List.take_zero,cutB]
  match j with
  | 0=>simp
  | j+1=>
   have:bytes t≠[]:=fun e=>by have h:=HT.out;rw [e] at h;simp at h;omega
   simp [this]
 case round=>
  obtain⟨wo,rfl⟩:∃ x,x=wr:=⟨_,rfl⟩
  obtain⟨k,R,hk,rfl,rfl,hR,hrow,hbel⟩:=hrel
  have HR:Hid _:=hrow
  clear hrow
  by_cases hlt:k<s.size
  ·have HX:Hid _:=Go.heap_alloc_new wo (.cells (bools (fvec (t.size+1) fun _=>false)) 4)
   have hRX:R<wo.heap.size:=lt_of_row HR.out
   go_wp2
   go_loopw [8] (fun kk w2=>∃ j:Nat,j≤t.size+1∧kk=.int .i64 j∧w2.heap[wo.heap.size]?=some (.cells (bools (fvec (t.size+1) (nextF s[k] ((bytes s).take k) (bytes t) j))) 4 (0,0)) ∧
     w2.heap[R]?=some (.cells (bools (fvec (t.size+1) (reachF ((bytes s).take k) (bytes t)))) 4 (0,0))∧Below w.heap.size w w2∧(s[k]=42→j≤t.size→∀ x,x<j→reachF ((bytes s).take k) (bytes t) x=false)) (fun kk _=>t.size+1-(intOf kk).toNat)
   case atStart=>exact⟨0,Nat.zero_le _,rfl,f_same HX.out (fun i _=>nextF_zero _ _ _ _),row_alloc HR.out,hbel.alloc hbel.size _,fun _ _ x hx=>absurd hx (Nat.not_lt_zero _)⟩
   case round=>
    obtain⟨wi,rfl⟩:∃ x,x=wr:=⟨_,rfl⟩
    obtain⟨j,hj,rfl,hnx,hre,hb2,hno⟩:=hrel
    have HN:Hid _:=hnx
    have HE:Hid _:=hre
    have HO:Hid _:=hno
    clear hno
    by_cases hjt:j≤t.size
    ·have hc:=f_cell hre (show j<t.size+1 by omega)
     clear hnx hre
     cases hr:reachF ((bytes s).take k) (bytes t) j
     ·have HF:Hid _:=hr
      go_wp2
      go_roundw
      case rel=>
       refine⟨j+1,by omega,by go_num,f_same HN.out (fun i _=>?_),HE.out,hb2,fun h42 _ x hx=>?_⟩
       ·by_cases h42:s[k]=42
        ·rw [h42];exact nextF_star_no _ _ _ HF.out _
        ·exact nextF_past _ _ _ _ h42 (by rw [HF.out];simp) _
       ·by_cases e:x=j
        ·rw [e];exact HF.out
        ·exact HO.out h42 (by omega) x (by omega)
      case measure=>simp [intOf];omega
     ·have HF:Hid _:=hr
      by_cases h42:s[k]=42
      ·have hb42:((s[k].toNat:Int) == 42)=true:=by rw [eq42];simpa using h42
       have HC:Hid _:=h42
       clear h42
       go_wp2
       go_loopw [9] (fun nn w3=>∃ m:Nat,j≤m∧m≤t.size+1∧nn=.int .i64 m∧w3.heap[wo.heap.size]?=some (.cells (bools (fvec (t.size+1) (fun x=>decide (j≤x) && decide (x<m)))) 4 (0,0)) ∧
         w3.heap[R]?=some (.cells (bools (fvec (t.size+1) (reachF ((bytes s).take k) (bytes t)))) 4 (0,0))∧Below w.heap.size w w3) (fun nn _=>t.size+1-(intOf nn).toNat)
       case atStart=>
        refine⟨j,Nat.le_refl _,by omega,rfl,f_same HN.out (fun i _=>?_),HE.out,hb2⟩
        rw [HC.out,nextF_star_none _ _ _ (HO.out HC.out hjt)]
        simp
       case round=>
        obtain⟨m,hm1,hm2,rfl,hx3,hr3,hb3⟩:=hrel
        have H3:Hid _:=hx3
        have G3:Hid _:=hr3
        by_cases hmt:m≤t.size
        ·have hc3:=f_cell hx3 (show m<t.size+1 by omega)
         have hf3:wr.frozen? ⟨wo.heap.size,m,none⟩=false:=frozen_of_row _ _ _ _ _ hx3
         clear hx3 hr3
         go_wp2
         go_roundw
         case rel=>
          refine⟨m+1,by omega,by omega,by go_num,f_store H3.out (fun i _=>?_),row_other G3.out (by omega),hb3.setCell (by exact hbel.size) _⟩
          by_cases e:i=m
          ·subst e;simp;omega
          ·rw [if_neg e]
           have:decide (i<m+1)=decide (i<m):=by rw [decide_eq_decide];omega
           rw [this]
         case measure=>simp [intOf];omega
        ·have:m=t.size+1:=by omega
         subst this
         clear hx3 hr3
         go_wp2
         go_roundw
         case rel=>
          refine⟨t.size+1,Nat.le_refl _,by go_num,f_same H3.out (fun i hi=>?_),G3.out,hb3,fun _ h=>absurd h (by omega)⟩
          rw [HC.out,nextF_star_yes _ _ j (t.size+1) (by omega) (HO.out HC.out hjt) HF.out]
          simp;omega
         case measure=>simp [intOf];omega
      ·have hb42:((s[k].toNat:Int) == 42)=false:=by rw [eq42];simpa using h42
       have HC:Hid (s[k]≠42):=h42
       clear h42
       by_cases hjl:j<t.size
       ·have hjl':(j:Int)<(t.size:Int):=by omega
        have HB:Hid _:=some_beq s t k j hlt hjl
        have hc1:=f_cell HN.out (show j+1<t.size+1 by omega)
        have hf1:wi.frozen? ⟨wo.heap.size,j+1,none⟩=false:=frozen_of_row _ _ _ _ _ HN.out
        by_cases hq:s[k]=63∨s[k]=t[j]
        ·have HQ:Hid ((s[k] == 63 || some s[k] == (bytes t)[j]?)=true):=by
          show _=_
          rw [HB.out];simpa using hq
         have HS:∀ n,nextF s[k] ((bytes s).take k) (bytes t) (j+1) n=if n=j+1 then true else nextF s[k] ((bytes s).take k) (bytes t) j n:=nextF_one _ _ _ _ HC.out true (by rw [HQ.out,HF.out];rfl)
         have HS':Hid _:=HS
         have hsp:((s[k].toNat:Int) == 63)=true∨(((s[k].toNat:Int) == 63)=false∧((s[k].toNat:Int) == (t[j].toNat:Int))=true):=by
          rw [eq63,eqB]
          by_cases e:s[k]=63
          ·left;simpa using e
          ·right;exact⟨by simpa using e,by simpa using hq.resolve_left e⟩
         clear HS hq
         rcases hsp with hx|⟨hx,hy⟩
         all_goals
          go_wp2_with fail
          go_quiet (fail)
          go_wp2_with fail
          go_roundw
          case rel=>exact⟨j+1,by omega,by go_num,f_store HN.out (fun i _=>HS'.out i),row_other (o:=.cells _ _ (0,0)) HE.out (by omega),(Below.drawn hb2 _).setCell (by exact hbel.size) _,fun h=>absurd h HC.out⟩
          case measure=>simp [intOf];omega
        ·have HQ:Hid ((s[k] == 63 || some s[k] == (bytes t)[j]?)=false):=by
          show _=_
          rw [HB.out];simpa using hq
         have h63:((s[k].toNat:Int) == 63)=false:=by rw [eq63];simpa using fun e=>hq (Or.inl e)
         have hbb:((s[k].toNat:Int) == (t[j].toNat:Int))=false:=by rw [eqB];simpa using fun e=>hq (Or.inr e)
         clear hq
         go_wp2_with fail
         go_quiet (fail)
         go_wp2_with fail
         go_roundw
         case rel=>exact⟨j+1,by omega,by go_num,f_same HN.out (fun i _=>nextF_past _ _ _ _ HC.out (by rw [HQ.out];rfl) i),HE.out,Below.drawn hb2 _,fun h=>absurd h HC.out⟩
         case measure=>simp [intOf];omega
       ·have hd:decide ((j:Int)<(t.size:Int))=false:=decide_eq_false (by omega)
        go_wp2_with fail
        go_quiet (fail)
        go_wp2_with fail
        go_roundw
        case rel=>exact⟨j+1,by omega,by go_num,f_same HN.out (fun i hi=>by rw [nextF_one _ _ _ _ HC.out _ rfl i,if_neg (by omega)]),HE.out,Below.drawn hb2 _,fun h=>absurd h HC.out⟩
        case measure=>simp [intOf];omega
    ·have:j=t.size+1:=by omega
     subst this
     clear hnx hre
     go_wp2
     go_roundw
     case rel=>
      refine⟨k+1,wo.heap.size,by omega,by go_num,rfl,hbel.size,f_same HN.out (fun i hi=>?_),hb2⟩
      rw [take_snoc s k hlt,← HT.out,nextF_all _ _ _ _ (by rw [HT.out];omega)]
     case measure=>simp [intOf];omega
  ·have hc:=f_cell HR.out (show t.size<t.size+1 by omega)
   rw [reachF,List.take_of_length_le (by rw [bytes_length];omega),List.take_of_length_le (by rw [bytes_length];exact Nat.le_refl _)] at hc
   go_wp2
   go_ret
   exact⟨rfl,hbel⟩
end Go.Proofs.YtgigkiocdiffjaaGreat
namespace Go.Proofs.YtgigkiocdiffjaaGreat
section
variable {P:Program} {ops:Array Oper} {Q:Exit→Act→World→Prop} {md:Region.Mode} {S:World→Prop} {fuel:Nat} {listed:Array Bool} {a:Act} {w:World}
theorem takeU (i:Nat) (d:Option Tmp) (hd:(ops[i]?).map (·.dst)=some d) (hw:((ops[i]?).map fun o=>Region.wanted o (yielded ops a.tmps))=some false)
  (hs:Region.noSelect ops=true) (hf:Region.free md ops listed i=true) (hr:(Region.ready md ops listed).contains i=true)
  (hQ:∀ c a w,Q (.panic c) (a.put d undef) w→Q (.panic c) a w) (hS:S w)
  (h:wpAnyH P md ops Q S fuel (listed.setIfInBounds i true) (a.put d undef) w):wpAnyH P md ops Q S (fuel+1) listed a w:=by
 cases ho:ops[i]? with
 | none=>rw [ho] at hd;cases hd
 | some o=>
  rw [ho] at hd hw
  obtain rfl:=Option.some.inj hd
  exact wpAnyH_take ho hs hf hr hQ (Or.inr ⟨Option.some.inj hw,rfl⟩) hS h
theorem takeW (i:Nat) (d:Option Tmp) (v:Value) (hd:(ops[i]?).map (·.dst)=some d) (hw:((ops[i]?).map fun o=>Region.wanted o (yielded ops a.tmps))=some true)
  (hs:Region.noSelect ops=true) (hf:Region.free md ops listed i=true) (hr:(Region.ready md ops listed).contains i=true)
  (hQ:∀ c a w,Q (.panic c) (a.put d v) w→Q (.panic c) a w) (hy:∀ o,ops[i]?=some o→∀ w,S w→(execOp a.eval o).run P w=.ok (.value v) w) (hS:S w)
  (h:wpAnyH P md ops Q S fuel (listed.setIfInBounds i true) (a.put d v) w):wpAnyH P md ops Q S (fuel+1) listed a w:=by
 cases ho:ops[i]? with
 | none=>rw [ho] at hd;cases hd
 | some o=>
  rw [ho] at hd hw
  obtain rfl:=Option.some.inj hd
  exact wpAnyH_take ho hs hf hr hQ (Or.inl ⟨Option.some.inj hw,hy o ho⟩) hS h
theorem tW (i:Nat) (d:Tmp) (v:Value) (hy:∀ o,ops[i]?=some o→∀ w,S w→(execOp a.eval o).run P w=.ok (.value v) w) (h:wpAnyH P md ops Q S fuel (listed.setIfInBounds i true) (a.put (some d) v) w) (hS:S w:=by assumption) (hd:(ops[i]?).map (·.dst)=some (some d):=by exact rfl) (hw:((ops[i]?).map fun o=>Region.wanted o (yielded ops a.tmps))=some true:=by exact rfl)
  (hs:Region.noSelect ops=true:=by kernel_rfl) (hf:Region.free md ops listed i=true:=by kernel_rfl) (hr:(Region.ready md ops listed).contains i=true:=by kernel_rfl)
  (hQ:∀ c a w,Q (.panic c) (a.put (some d) v) w→Q (.panic c) a w:=by exact fun _ _ _ h=>h):wpAnyH P md ops Q S (fuel+1) listed a w:=takeW i (some d) v hd hw hs hf hr hQ hy hS h
theorem tV (i:Nat) (d:Tmp) {v:Value} (h:wpAnyH P md ops Q S fuel (listed.setIfInBounds i true) (a.put (some d) v) w) (hy:∀ o,ops[i]?=some o→∀ w,S w→(execOp a.eval o).run P w=.ok (.value v) w:=by (intro o ho w hSw;obtain rfl:=Option.some.inj ho;clear ho;(try dsimp only at hSw);go_simp;try (with_reducible rfl))) (hS:S w:=by assumption) (hd:(ops[i]?).map (·.dst)=some (some d):=by exact rfl) (hw:((ops[i]?).map fun o=>Region.wanted o (yielded ops a.tmps))=some true:=by exact rfl)
  (hs:Region.noSelect ops=true:=by kernel_rfl) (hf:Region.free md ops listed i=true:=by kernel_rfl) (hr:(Region.ready md ops listed).contains i=true:=by kernel_rfl)
  (hQ:∀ c a w,Q (.panic c) (a.put (some d) v) w→Q (.panic c) a w:=by exact fun _ _ _ h=>h):wpAnyH P md ops Q S (fuel+1) listed a w:=takeW i (some d) v hd hw hs hf hr hQ hy hS h
end
theorem lA {α:Type} (l:List α) (i:Nat) (a:α):l.toArray.setIfInBounds i a=(l.set i a).toArray:=List.setIfInBounds_toArray _ _ _
theorem lZ {α:Type} {l:List α} {a b:α}:(a :: l).set 0 b=b :: l:=List.set_cons_zero
theorem lS {α:Type} {l:List α} {n:Nat} {a b:α}:(a :: l).set (n+1) b=a :: l.set n b:=List.set_cons_succ
end Go.Proofs.YtgigkiocdiffjaaGreat
