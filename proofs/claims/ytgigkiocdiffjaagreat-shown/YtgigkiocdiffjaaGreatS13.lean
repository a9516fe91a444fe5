import Derived.Test.YtgigkiocdiffjaaGreatS12
import Derived.Test.YtgigkiocdiffjaaGreatS11
import Derived.Deep.RegionHeldLaw
import Derived.Test.YtgigkiocdiffjaaGreatS09
set_option maxRecDepth 100000
set_option maxHeartbeats 16000000
namespace Go.Proofs.YtgigkiocdiffjaaGreat
open Go.RowKit Veil
def findAll (s p:ByteArray):List Sp:=(spansTo s s.size).filter (hitB s p)
theorem findTo_all (s p:ByteArray):findTo s p (spansTo s s.size) (spansTo s s.size).length=findAll s p:=by
 unfold findTo findAll;rw [List.take_length]
def struckTo (s:ByteArray) (ps:List ByteArray) (k:Nat):List Sp:=(ps.take k).flatMap (findAll s)
theorem struckTo_succ {s:ByteArray} {ps:List ByteArray} {k:Nat} {p:ByteArray} (h:ps[k]?=some p):struckTo s ps (k+1)=struckTo s ps k++findAll s p:=by
 unfold struckTo;rw [List.take_add_one,h,List.flatMap_append];simp
theorem struckTo_all (s:ByteArray) (ps:List ByteArray):struckTo s ps ps.length=struckL s ps:=by
 unfold struckTo struckL findAll;rw [List.take_length]
theorem findAll_length (s p:ByteArray):(findAll s p).length≤s.size:=Nat.le_trans (List.length_filter_le _ _) (spansTo_length s s.size)
theorem struckTo_length (s:ByteArray) (ps:List ByteArray) (k:Nat):(struckTo s ps k).length≤k*s.size:=by
 induction k with
 | zero=>simp [struckTo]
 | succ k ih=>
  cases h:ps[k]? with
  | none=>
   have:struckTo s ps (k+1)=struckTo s ps k:=by unfold struckTo;rw [List.take_add_one,h];simp
   rw [this,Nat.add_mul];omega
  | some p=>
   rw [struckTo_succ h,List.length_append,Nat.add_mul]
   have:=findAll_length s p
   omega
theorem own_src {α:Type} {e:TypeId} {sz:Nat} {f:α→List Value} {w:World} {B:Nat} {ao:Option Addr} {n cap:Nat} {l:List α} (h:OwnL e sz f w B (.slice ao n cap) l):(ao=none→n=0∧cap=0)∧∀ a,ao=some a→∀ j u,(l.flatMap f)[j]?=some u→w.cell? (a.add j)=some u:=by
 refine⟨fun ha=>?_,fun a ha j u hu=>?_⟩
 ·rcases h.2 with⟨h1,_⟩|⟨g,cap',cur,h1,_⟩
  ·simp only [Value.slice.injEq] at h1
   exact⟨h1.2.1,h1.2.2⟩
  ·simp only [Value.slice.injEq] at h1
   rw [ha] at h1;cases h1.1
 ·subst ha
  rcases h.2 with⟨h1,_⟩|⟨g,cap',cur,h1,_⟩
  ·simp only [Value.slice.injEq] at h1;cases h1.1
  ·simp only [Value.slice.injEq] at h1
   obtain⟨h2,_,_⟩:=h1
   obtain rfl:=Option.some.inj h2
   exact World.ownsRow.cells h (g:=g) rfl j u hu
theorem vwStrike_any (s:ByteArray) (ps:List ByteArray) (vs:Value) (w:World) (hvs:SeqV 1 strV w vs ps) (hS:ps.length≤8) (hs:s.size≤1000000) (hv:∀ p,p ∈ ps→validB p=true) :
  Calls Tryz.prog 151 #[.string s,vs] w fun e w'=>∃ vl,e=.returned vl∧OwnL 94 3 spV w' w.heap.size vl (struckL s ps)∧Below w.heap.size w w':=by
 obtain⟨ao,cap,gs,rfl,hao,hcs⟩:=hvs
 have HC:=hide hcs
 have HAO:=hide hao
 have HFD:=hide (fun (p:ByteArray) (w':World) (h:p ∈ ps)=>spFind_any s p w' hs (hv p h))
 have HAL:=hide (struckTo_all s ps)
 clear hcs hao hv
 go_enter Tryz.func151,Tryz.ntmps151
 go_wp2
 go_loopw [5,11] (fun vl i wr=>∃ k:Nat,k≤ps.length∧i=.int .i64 k∧OwnL 94 3 spV wr w.heap.size vl (struckTo s ps k)∧Below w.heap.size w wr) (fun _ i _=>ps.length-(intOf i).toNat)
 case atStart=>exact⟨0,Nat.zero_le _,rfl,OwnL.nil _ _ _ _ _,Below.refl _ _⟩
 case round=>
  obtain⟨wo,rfl⟩:∃ x,x=wr:=⟨_,rfl⟩
  obtain⟨k,hk,rfl,hvl,hbel⟩:=hrel
  have HVL:=hide hvl
  clear hvl
  by_cases hlt:k<ps.length
  ·have hki:(k:Int)<(ps.length:Int):=by omega
   have hne:ps≠[]:=fun e=>by rw [e] at hlt;simp at hlt
   obtain⟨rfl,hgs⟩:=HAO.out.resolve_left hne
   have hej:ps[k]?=some ps[k]:=List.getElem?_eq_getElem hlt
   have c0:=HC.out k _ hej 0 (by omega)
   have HF1:=hide (HFD.out ps[k] wo (List.getElem_mem hlt))
   have HSU:=hide (struckTo_succ (s:=s) hej)
   have hl1:=struckTo_length s ps k
   have hl2:=findAll_length s ps[k]
   have hl3:k*s.size≤8*1000000:=Nat.mul_le_mul (by omega) hs
   rw [findTo_all] at HF1
   generalize ps[k]=p at *
   generalize findAll s p=L at *
   have d0:wo.cell? ⟨gs,k,none⟩=some (.string p):=by
    have:=(hbel.cell (p:=⟨gs,k*1+0,none⟩) hgs).trans c0
    simpa [strV] using this
   clear c0 hej hne
   go_wp2_with fail
   refine (HF1.out).mono ?_
   rintro e w3 ⟨vf,rfl,hvf,hb3⟩
   obtain⟨fao,fcap,rfl⟩:=hvf.shape
   obtain⟨hsrc,hcell⟩:=own_src hvf
   have hbel3:=hbel.trans (hb3.mono hbel.size)
   have HV3:=hide (HVL.out.below hb3)
   have HSRC:=hide hsrc
   have HCELL:=hide hcell
   clear hsrc hcell hvf
   go_wp2_with (at_builtin;refine wpList_pushes rfl (.tmp 18) (.tmp 19) 69 rfl (.agg #[.int .i64 0,.int .i64 0,.int .i64 0]) 24 Tryz.underlying69 Tryz.infoSpan rfl (by decide) rfl HV3.out fao L.length fcap L rfl rfl HSRC.out HCELL.out (fun _=>rfl) (by intro a _ u hu;simp [spV] at hu;rcases hu with rfl|rfl|rfl <;> rfl) (by omega) (by decide) hbel3.size ?_;intro v6 w6 hown6 hgrow6 hat6)
   have hb6:=hbel3.trans (below_of_grown hgrow6 (fun b hb=>(HV3.out.lt hb).1) hbel3.size)
   go_roundw
   case rel=>exact⟨k+1,by omega,by go_num,by rw [HSU.out];exact hown6,hb6⟩
   case measure=>simp [intOf];omega
  ·obtain rfl:k=ps.length:=by omega
   have hkc:decide ((ps.length:Int)<(ps.length:Int))=false:=by simp
   go_wp2
   go_ret
   exact⟨_,rfl,by rw [← HAL.out];exact HVL.out,hbel⟩
def BytesAt (w:World) (g m:Nat) (F:Nat→Nat):Prop:=∃ cur,w.heap[g]?=some (.cells cur 5 (cur.size,cur.size+1))∧m≤cur.size∧∀ j,j<m→cur[j]?=some (.int .u8 (F j))
theorem BytesAt.cell {w:World} {g m:Nat} {F:Nat→Nat} (h:BytesAt w g m F) {j:Nat} (hj:j<m):w.cell? ⟨g,j,none⟩=some (.int .u8 (F j))∧w.frozen? ⟨g,j,none⟩=false:=by
 obtain⟨cur,h1,h2,h3⟩:=h
 refine⟨by rw [cell_of_row _ _ _ _ _ _ h1];exact h3 j hj,?_⟩
 simp only [World.frozen?,h1]
 simp
 omega
theorem BytesAt.lt {w:World} {g m:Nat} {F:Nat→Nat} (h:BytesAt w g m F):g<w.heap.size:=by
 obtain⟨cur,h1,_⟩:=h;exact lt_of_row h1
theorem BytesAt.below {w w':World} {g m:Nat} {F:Nat→Nat} (h:BytesAt w g m F) (hb:Below w.heap.size w w'):BytesAt w' g m F:=by
 have hl:=h.lt
 obtain⟨cur,h1,h2,h3⟩:=h
 exact⟨cur,Below.row hb h1 hl,h2,h3⟩
theorem BytesAt.congr {w:World} {g m:Nat} {F G:Nat→Nat} (h:BytesAt w g m F) (hfg:∀ j,j<m→F j=G j):BytesAt w g m G:=by
 obtain⟨cur,h1,h2,h3⟩:=h
 exact⟨cur,h1,h2,fun j hj=>by rw [h3 j hj,hfg j hj]⟩
theorem BytesAt.set {w:World} {g m:Nat} {F G:Nat→Nat} (h:BytesAt w g m F) {i x:Nat} (hG:∀ j,j<m→G j=if j=i then x else F j):BytesAt (w.setCell ⟨g,i,none⟩ (.int .u8 x)) g m G:=by
 obtain⟨cur,h1,h2,h3⟩:=h
 have hh:(w.setCell ⟨g,i,none⟩ (.int .u8 x)).heap[g]?=some (.cells (cur.setIfInBounds i (.int .u8 x)) 5 (cur.size,cur.size+1)):=by
  rw [setCell_eq_setRow w g i cur _ _ _ h1]
  exact setRow_heap w g cur _ _ _ h1
 refine⟨cur.setIfInBounds i (.int .u8 x),by rw [hh];simp,by simpa using h2,fun j hj=>?_⟩
 rw [Array.getElem?_setIfInBounds,hG j hj]
 by_cases hij:i=j
 ·subst hij;rw [if_pos rfl,if_pos (by omega),if_pos rfl]
 ·rw [if_neg hij,if_neg (fun h=>hij h.symm),h3 j hj]
theorem bytes_made (w:World) (T:Nat→Nat) (m:Nat) (hT:∀ j,j<m→T j<256):∃ cap w1,(convert 9 164 (.string (textF T 0 m))).run Tryz.prog w=.ok (.slice (some ⟨w.heap.size,0,none⟩) m cap) w1∧BytesAt w1 w.heap.size m T∧Below w.heap.size w w1:=by
 have h:=run_bytes_of_string (P:=Tryz.prog) w 9 164 5 (textF T 0 m) Tryz.underlying9 Tryz.underlying164 Tryz.underlying5
 have hsz:(textF T 0 m).size=m:=by rw [textF_size];omega
 rw [hsz] at h
 refine⟨_,_,h,⟨_,heap_alloc_new w.drew _,?_,fun j hj=>?_⟩,?_⟩
 ·unfold bytesRow
  rw [Array.size_append,Array.size_map]
  have:(textF T 0 m).data.size=m:=hsz
  omega
 ·have hd:j<(textF T 0 m).data.size:=by have:(textF T 0 m).data.size=m:=hsz;omega
  rw [bytesRow_at _ _ _ hd]
  have hb:=bt_textF T m j hj (hT j hj)
  rw [bt_get _ _ (by omega)] at hb
  have hb':(textF T 0 m).data[j].toNat=T j:=hb
  rw [hb']
 ·exact (Below.refl w.heap.size w).drew.alloc (Nat.le_refl _) _
def maskK (S:List Se) (T:Nat→Nat) (L:List Sp) (k lo i j:Nat):Nat:=bif ((L.take k).any (fun x=>inSp x j) || (decide (lo≤j) && decide (j<i))) && !(seAt S j).free then 35 else T j
theorem maskK_zero (S:List Se) (T:Nat→Nat) (L:List Sp) (j:Nat):maskK S T L 0 0 0 j=T j:=by simp [maskK]
theorem maskK_start (S:List Se) (T:Nat→Nat) (L:List Sp) (k lo j:Nat):maskK S T L k 0 0 j=maskK S T L k lo lo j:=by
 unfold maskK
 have h1:(decide (0≤j) && decide (j<0))=false:=by simp
 have h2:(decide (lo≤j) && decide (j<lo))=false:=by
  rw [Bool.and_eq_false_iff,decide_eq_false_iff_not,decide_eq_false_iff_not];omega
 rw [h1,h2]
theorem maskK_end {S:List Se} {T:Nat→Nat} {L:List Sp} {k:Nat} {x:Sp} (h:L[k]?=some x) (j:Nat):maskK S T L k x.lo x.hi j=maskK S T L (k+1) 0 0 j:=by
 unfold maskK
 rw [any_snoc (fun x=>inSp x j) L k x h]
 have h1:(decide (0≤j) && decide (j<0))=false:=by simp
 rw [h1,Bool.or_false]
 rfl
theorem maskK_all (S:List Se) (T:Nat→Nat) (L:List Sp) (j:Nat):maskK S T L L.length 0 0 j=maskedF S T L j:=by
 unfold maskK maskedF
 have h1:(decide (0≤j) && decide (j<0))=false:=by simp
 rw [h1,Bool.or_false,List.take_length]
theorem maskK_free {S:List Se} {T:Nat→Nat} {L:List Sp} {k lo i:Nat} (hi:(seAt S i).free=true) (j:Nat):maskK S T L k lo i j=maskK S T L k lo (i+1) j:=by
 unfold maskK
 by_cases hj:j=i
 ·subst hj;rw [hi];simp
 ·have:decide (j<i+1)=decide (j<i):=by rw [decide_eq_decide];omega
  rw [this]
theorem maskK_not {S:List Se} {T:Nat→Nat} {L:List Sp} {k lo i:Nat} (hlo:lo≤i) (hi:(seAt S i).free=false) (j:Nat):maskK S T L k lo (i+1) j=if j=i then 35 else maskK S T L k lo i j:=by
 unfold maskK
 by_cases hj:j=i
 ·subst hj
  rw [if_pos rfl,hi]
  have:(decide (lo≤j) && decide (j<j+1))=true:=by simp [hlo]
  rw [this];simp
 ·have:decide (j<i+1)=decide (j<i):=by rw [decide_eq_decide];omega
  rw [this,if_neg hj]
theorem maskK_lt {S:List Se} {T:Nat→Nat} {L:List Sp} {k lo i j:Nat} (h:T j<256):maskK S T L k lo i j<256:=by
 unfold maskK
 cases (((L.take k).any (fun x=>inSp x j) || (decide (lo≤j) && decide (j<i))) && !(seAt S j).free)
 ·exact h
 ·exact (by decide:(35:Nat)<256)
theorem conv_at {w:World} {g m cap:Nat} {F:Nat→Nat} (h:BytesAt w g m F) (hb:∀ j,j<m→F j<256):(convert 164 9 (.slice (some ⟨g,0,none⟩) m cap)).run Tryz.prog w=.ok (.string (textF F 0 m)) w:=by
 have hl:((List.range' 0 (m-0)).map fun j=>UInt8.ofNat (F j)).length=m:=by simp
 have:=run_convert_bytes_back (P:=Tryz.prog) w 164 9 5 ⟨g,0,none⟩ cap ((List.range' 0 (m-0)).map fun j=>UInt8.ofNat (F j)) Tryz.underlying164 Tryz.underlying5 Tryz.underlying9 (fun j hj=>by
  have hj':j<m:=by rw [hl] at hj;exact hj
  have hadd:(⟨g,0,none⟩:Addr).add j=⟨g,j,none⟩:=by unfold Addr.add;split <;> simp_all
  rw [hadd,(h.cell hj').1]
  have:=hb j hj'
  simp only [List.getElem_map,List.getElem_range',Nat.zero_add,Nat.one_mul]
  congr 2
  have:(UInt8.ofNat (F j)).toNat=F j:=by simp;omega
  rw [this])
 rw [hl] at this
 rw [this];rfl
theorem vwMask_any (S:List Se) (T:Nat→Nat) (L:List Sp) (vs vl:Value) (w:World) (hvs:SeqV 4 seV w vs S) (hvl:SeqV 3 spV w vl L) (hS:S.length≤1000000) (hLl:L.length≤100000000) (hT:∀ j,T j<256) (hL:∀ x,x ∈ L→x.lo≤x.hi∧x.hi≤S.length) :
  Calls Tryz.prog 152 #[vs,.string (textF T 0 S.length),vl] w fun e w'=>e=.returned (.string (textF (maskedF S T L) 0 S.length))∧Below w.heap.size w w':=by
 obtain⟨ao,cap,gs,rfl,hao,hcs⟩:=hvs
 obtain⟨lao,lcap,gl,rfl,hlao,hcl⟩:=hvl
 obtain⟨mcap,w1,hcv,hba,hb1⟩:=bytes_made w T S.length (fun j _=>hT j)
 have HC:=hide hcs
 have HAO:=hide hao
 have HLC:=hide hcl
 have HLAO:=hide hlao
 have HT:=hide hT
 have HL:=hide hL
 have HBA:=hide hba
 have HALL:=hide (textF_congr (a:=0) (b:=S.length) (fun j _ _=>maskK_all S T L j))
 have HCV:=hide (fun (wz:World) (h:BytesAt wz w.heap.size S.length (maskK S T L L.length 0 0))=>conv_at (cap:=mcap) h (fun j _=>maskK_lt (HT.out j)))
 rw [HALL.out] at HCV
 clear hcs hao hcl hlao hba HALL hT hL
 go_enter Tryz.func152,Tryz.ntmps152
 go_wp2
 go_loopw [15] (fun i wr=>∃ k:Nat,k≤L.length∧i=.int .i64 k∧BytesAt wr w.heap.size S.length (maskK S T L k 0 0)∧Below w.heap.size w wr) (fun i _=>L.length-(intOf i).toNat)
 case atStart=>exact⟨0,Nat.zero_le _,rfl,HBA.out.congr (fun j _=>(maskK_zero S T L j).symm),hb1⟩
 case round=>
  clear hcv hb1 HBA
  obtain⟨wo,rfl⟩:∃ x,x=wr:=⟨_,rfl⟩
  obtain⟨k,hk,rfl,hby,hbel⟩:=hrel
  have HBY:=hide hby
  clear hby
  by_cases hlt:k<L.length
  ·have hki:(k:Int)<(L.length:Int):=by omega
   have hne:L≠[]:=fun e=>by rw [e] at hlt;simp at hlt
   obtain⟨rfl,hgl⟩:=HLAO.out.resolve_left hne
   have hej:L[k]?=some L[k]:=List.getElem?_eq_getElem hlt
   have c0:=HLC.out k _ hej 0 (by omega)
   have c1:=HLC.out k _ hej 1 (by omega)
   have c2:=HLC.out k _ hej 2 (by omega)
   obtain⟨hx1,hx2⟩:=HL.out _ (List.getElem_mem hlt)
   have HEND:=hide (fun j=>maskK_end (S:=S) (T:=T) hej j)
   generalize L[k]=x at *
   obtain⟨x1,x2,x3⟩:=x
   simp only at hx1 hx2
   have d0:wo.cell? ⟨gl,k*3,none⟩=some (.int .i64 x1):=(hbel.cell (p:=⟨gl,k*3,none⟩) hgl).trans c0
   have d1:wo.cell? ⟨gl,k*3+1,none⟩=some (.int .i64 x2):=(hbel.cell (p:=⟨gl,k*3+1,none⟩) hgl).trans c1
   have d2:wo.cell? ⟨gl,k*3+2,none⟩=some (.int .i64 x3):=(hbel.cell (p:=⟨gl,k*3+2,none⟩) hgl).trans c2
   have hbB:Below wo.heap.size wo (wo.alloc (.cells #[.int .i64 x1,.int .i64 x2,.int .i64 x3] 94)):=below_box _ _
   have hbelB:=hbel.trans (hbB.mono hbel.size)
   have HBB:=hide ((HBY.out.below hbB).congr (fun j _=>maskK_start S T L k x2 j))
   have HNB:=hide (Go.heap_alloc_new wo (.cells #[.int .i64 x1,.int .i64 x2,.int .i64 x3] 94))
   have hgw:=HBY.out.lt
   clear c0 c1 c2 hej hne
   go_wp2
   go_loopw [10] (fun i wr=>∃ p:Nat,x2≤p∧p≤x3∧i=.int .i64 p∧BytesAt wr w.heap.size S.length (maskK S T L k x2 p)∧wr.heap[wo.heap.size]?=some (.cells #[.int .i64 x1,.int .i64 x2,.int .i64 x3] 94 (0,0))∧Below w.heap.size w wr) (fun i _=>x3-(intOf i).toNat)
   case atStart=>exact⟨x2,Nat.le_refl _,hx1,rfl,HBB.out,HNB.out,hbelB⟩
   case round=>
    clear hbelB HBB HNB hbB
    obtain⟨wi,rfl⟩:∃ x,x=wr:=⟨_,rfl⟩
    obtain⟨p,hp1,hp2,rfl,hbyi,hnb,hbeli⟩:=hrel
    have HBI:=hide hbyi
    have HNI:=hide hnb
    have n2:wi.cell? ⟨wo.heap.size,2,none⟩=some (.int .i64 x3):=by rw [cell_of_row _ _ _ _ _ _ hnb];rfl
    clear hbyi hnb d0 d1 d2
    have hp0:(0:Int)≤(p:Int):=by omega
    by_cases hpl:p<x3
    ·have hpi:(p:Int)<(x3:Int):=by omega
     have hps:(p:Int)<(S.length:Int):=by omega
     have hpS:p<S.length:=by omega
     have hne:S≠[]:=fun e=>by rw [e] at hpS;simp at hpS
     obtain⟨rfl,hgs⟩:=HAO.out.resolve_left hne
     have hej:S[p]?=some S[p]:=List.getElem?_eq_getElem hpS
     have c3:=HC.out p _ hej 3 (by omega)
     have hsa:seAt S p=S[p]:=by simp [seAt,List.getD,hej]
     have HFR:=hide (fun (h:(seAt S p).free=true)=>maskK_free (S:=S) (T:=T) (L:=L) (k:=k) (lo:=x2) h)
     have HNF:=hide (fun (h:(seAt S p).free=false)=>maskK_not (S:=S) (T:=T) (L:=L) (k:=k) hp1 h)
     rw [hsa] at HFR HNF
     generalize S[p]=y at *
     obtain⟨y1,y2,y3,y4⟩:=y
     have e3:wi.cell? ⟨gs,p*4+3,none⟩=some (.bool y4):=(hbeli.cell (p:=⟨gs,p*4+3,none⟩) hgs).trans c3
     simp only at HFR HNF
     obtain⟨m0,m1⟩:=HBI.out.cell hpS
     clear c3 hej hne hsa
     cases y4
     ·have HN1:=hide (HNF.out rfl)
      have hbS:Below w.heap.size w (wi.setCell ⟨w.heap.size,p,none⟩ (.int .u8 35)):=hbeli.setCell (show w.heap.size≤(⟨w.heap.size,p,none⟩:Addr).block from Nat.le_refl _) _
      have HBS:Hid (BytesAt (wi.setCell ⟨w.heap.size,p,none⟩ (.int .u8 35)) w.heap.size S.length (maskK S T L k x2 (p+1))):=HBI.out.set (fun j _=>HN1.out j)
      have HNS:=hide (row_other (v:=.int .u8 35) (j:=p) HNI.out (show wo.heap.size≠w.heap.size by omega))
      go_wp2
      go_roundw
      case rel=>exact⟨p+1,by omega,by omega,by go_num,HBS.out,HNS.out,hbS⟩
      case measure=>simp [intOf];omega
     ·have HF1:=hide (HFR.out rfl)
      go_wp2
      go_roundw
      case rel=>exact⟨p+1,by omega,by omega,by go_num,HBI.out.congr (fun j _=>HF1.out j),HNI.out,hbeli⟩
      case measure=>simp [intOf];omega
    ·obtain rfl:p=x3:=by omega
     have hpc:decide ((p:Int)<(p:Int))=false:=by simp
     go_wp2
     go_roundw
     case rel=>exact⟨k+1,by omega,by go_num,HBI.out.congr (fun j _=>HEND.out j),hbeli⟩
     case measure=>simp [intOf];omega
  ·obtain rfl:k=L.length:=by omega
   have hkc:decide ((L.length:Int)<(L.length:Int))=false:=by simp
   have hcv2:=HCV.out wo HBY.out
   go_wp2
   go_ret
   exact⟨rfl,hbel⟩
end Go.Proofs.YtgigkiocdiffjaaGreat
namespace Go.Proofs.YtgigkiocdiffjaaGreat
open Go.RowKit Veil
theorem Tryz.infoPPlace:(Tryz.prog.info? 131).map (fun i=>(i.zero,i.size,i.bytes))=some (some (.agg #[.int .u8 0,.int .i64 0,.int .i64 0]),3,24):=by kernel_rfl
def seNum (S:List Se) (j:Nat):Nat:=(seAt S j).num
theorem joinTo_length (A M:Nat→Nat):∀ k,(joinTo A M k).length≤k
 | 0=>Nat.le_refl _
 | k+1=>by
  have:=joinTo_length A M k
  rw [joinTo]
  cases (lastB (joinTo A M k) && (M k == 35))
  ·simp only [cond_false,List.length_append,List.length_singleton];omega
  ·simp only [cond_true,lastTo,List.length_modify];omega
theorem lastB_at {l:List Pl} {n:Nat} {p:Pl} (hn:l.length=n+1) (hp:l[n]?=some p):lastB l=(p.b == 35):=by
 unfold lastB
 rw [List.getLast?_eq_getElem?,hn,Nat.add_sub_cancel,hp]
theorem vwJoin_any (S:List Se) (M:Nat→Nat) (vs:Value) (w:World) (hvs:SeqV 4 seV w vs S) (hS:S.length≤1000000) (hM:∀ j,M j<256) :
  Calls Tryz.prog 153 #[vs,.string (textF M 0 S.length)] w fun e w'=>∃ vl,e=.returned vl∧OwnL 131 3 placeV w' w.heap.size vl (joinTo (seNum S) M S.length)∧Below w.heap.size w w':=by
 obtain⟨ao,cap,gs,rfl,hao,hcs⟩:=hvs
 have HC:=hide hcs
 have HAO:=hide hao
 have hsz:(textF M 0 S.length).size=S.length:=by rw [textF_size];omega
 have HBT:=hide (fun (j:Nat) (h:j<(textF M 0 S.length).size)=>show ((textF M 0 S.length)[j]'h).toNat=M j by rw [← bt_get _ _ h];exact bt_textF M _ j (by omega) (hM j))
 generalize textF M 0 S.length=s at *
 clear hcs hao hM
 go_enter Tryz.func153,Tryz.ntmps153
 go_wp2
 go_loopw [5,6] (fun vl i wr=>∃ k:Nat,k≤S.length∧i=.int .i64 k∧OwnL 131 3 placeV wr w.heap.size vl (joinTo (seNum S) M k)∧Below w.heap.size w wr) (fun _ i _=>S.length-(intOf i).toNat)
 case atStart=>exact⟨0,Nat.zero_le _,rfl,OwnL.nil _ _ _ _ _,Below.refl _ _⟩
 case round=>
  obtain⟨wo,rfl⟩:∃ x,x=wr:=⟨_,rfl⟩
  obtain⟨k,hk,rfl,hvl,hbel⟩:=hrel
  have hpl:=joinTo_length (seNum S) M k
  have HPS:=hide (show joinTo (seNum S) M (k+1)=bif lastB (joinTo (seNum S) M k) && (M k == 35) then lastTo (joinTo (seNum S) M k) (seNum S k) else joinTo (seNum S) M k++[⟨M k,seNum S k,seNum S k⟩] from rfl)
  generalize hPL:joinTo (seNum S) M k=PL at *
  have HPL:=hide hPL
  have HVL:=hide hvl
  clear hvl hPL
  by_cases hlt:k<S.length
  ·have hki:(k:Int)<(S.length:Int):=by omega
   have hks:k<s.size:=by omega
   have hksi:(k:Int)<(s.size:Int):=by omega
   have hne:S≠[]:=fun e=>by rw [e] at hlt;simp at hlt
   obtain⟨rfl,hgs⟩:=HAO.out.resolve_left hne
   have hej:S[k]?=some S[k]:=List.getElem?_eq_getElem hlt
   have c0:=HC.out k _ hej 0 (by omega)
   have hsa:seAt S k=S[k]:=by simp [seAt,List.getD,hej]
   generalize S[k]=y at *
   obtain⟨y1,y2,y3,y4⟩:=y
   have c0':w.cell? ⟨gs,k*4,none⟩=some (.int .i64 y1):=c0
   have d0:wo.cell? ⟨gs,k*4,none⟩=some (.int .i64 y1):=(hbel.cell (p:=⟨gs,k*4,none⟩) hgs).trans c0'
   clear c0
   have hmk:=HBT.out k hks
   have HMK:=hide hmk
   clear hej hne
   by_cases hp0:0<PL.length
   ·obtain⟨n1,hn1,hn2⟩:∃ n1:Nat,(PL.length:Int)-1=(n1:Int)∧PL.length=n1+1:=⟨PL.length-1,by omega,by omega⟩
    obtain⟨gl,cl,hvl,hBl,hgll⟩:=HVL.out.form hp0
    subst hvl
    have hn3:(n1:Int)<(PL.length:Int):=by omega
    have hn0:(0:Int)≤(n1:Int):=by omega
    have hpn:PL[n1]?=some (PL[n1]'(by omega)):=List.getElem?_eq_getElem (by omega)
    generalize (PL[n1]'(by omega))=q at *
    have l0:wo.cell? ⟨gl,n1*3,none⟩=some (.int .u8 q.b):=HVL.out.cell (show ∀ a,(placeV a).length=3 from fun _=>rfl) rfl hpn (j:=0) (by omega)
    have l2:wo.cell? ⟨gl,n1*3+2,none⟩=some (.int .i64 q.last):=HVL.out.cell (show ∀ a,(placeV a).length=3 from fun _=>rfl) rfl hpn (j:=2) (by omega)
    have HLB:=hide (lastB_at hn2 hpn)
    cases hq:((q.b:Int) == 35)
    ·have hq':(q.b == 35)=false:=by simp at hq ⊢;omega
     rw [hq'] at HLB
     have HN2:=hide hn2
     clear hn2 hpn hq'
     have HPT:=hide (show joinTo (seNum S) M (k+1)=PL++[⟨M k,(seAt S k).num,(seAt S k).num⟩] by rw [HPS.out];rw [HLB.out];rfl)
     rw [hsa] at HPT
     simp only at HPT
     have ho1:=hide (Go.heap_alloc_new wo.drew (.cells #[.int .u8 (M k),.int .i64 y1,.int .i64 y1] 131))
     have hbA:Below wo.heap.size wo (wo.drew.alloc (.cells #[.int .u8 (M k),.int .i64 y1,.int .i64 y1] 131)):=(below_drew wo).alloc (Nat.le_refl _) _
     have hbbA:Below w.heap.size w (wo.drew.alloc (.cells #[.int .u8 (M k),.int .i64 y1,.int .i64 y1] 131)):=hbel.trans (hbA.mono hbel.size)
     have HVLA:=hide (HVL.out.below hbA)
     rw [← hmk] at ho1 hbA hbbA HVLA
     clear hsa hmk
     go_wp2_with fail
     go_region_held_law (fun w'=>w'.cell? ⟨gs,k*4,none⟩=some (.int .i64 y1)) (go_keep) (first|(refine step_push rfl (.tmp 48) (.tmp 63) 127 rfl (.agg #[.int .u8 0,.int .i64 0,.int .i64 0]) 24 Tryz.underlying127 Tryz.infoPPlace rfl (by decide) rfl HVLA.out wo.heap.size 1 ⟨s[k].toNat,y1,y1⟩ rfl 131 (0,0) ho1.out rfl (by intro u hu;simp [placeV] at hu;rcases hu with rfl|rfl|rfl <;> rfl) (by omega) (by decide) hbbA.size (wo.heap.size+1) (by simp) ?_;intro gl6 cap6 w6 hown6 hgrow6 hat6 hlt6;have hbb7:=hbbA.trans (below_of_grown hgrow6 (fun b hb=>(HVLA.out.lt hb).1) hbbA.size);have z1:=(hbb7.cell (p:=⟨gs,k*4,none⟩) hgs).trans c0'))
     have hbb6:=hbbA.trans (below_of_grown hgrow6 (fun b hb=>(HVLA.out.lt hb).1) hbbA.size)
     go_wp2
     go_roundw
     case rel=>exact⟨k+1,by omega,by go_num,by rw [HPT.out,← HMK.out];exact hown6,hbb6⟩
     case measure=>simp [intOf];omega
    ·have hq':(q.b == 35)=true:=by simp at hq ⊢;omega
     rw [hq'] at HLB
     cases hm35:(((s[k].toNat:Nat):Int) == 35)
     ·have hm35':(M k == 35)=false:=by rw [← HMK.out];simp at hm35 ⊢;omega
      have HM35:=hide hm35'
      have HN2:=hide hn2
      clear hn2 hpn hq' hm35'
      have HPT:=hide (show joinTo (seNum S) M (k+1)=PL++[⟨M k,(seAt S k).num,(seAt S k).num⟩] by rw [HPS.out];rw [HLB.out,HM35.out];rfl)
      rw [hsa] at HPT
      simp only at HPT
      have ho1:=hide (Go.heap_alloc_new wo.drew (.cells #[.int .u8 (M k),.int .i64 y1,.int .i64 y1] 131))
      have hbA:Below wo.heap.size wo (wo.drew.alloc (.cells #[.int .u8 (M k),.int .i64 y1,.int .i64 y1] 131)):=(below_drew wo).alloc (Nat.le_refl _) _
      have hbbA:Below w.heap.size w (wo.drew.alloc (.cells #[.int .u8 (M k),.int .i64 y1,.int .i64 y1] 131)):=hbel.trans (hbA.mono hbel.size)
      have HVLA:=hide (HVL.out.below hbA)
      rw [← hmk] at ho1 hbA hbbA HVLA
      clear hsa hmk
      go_wp2_with fail
      go_region_held_law (fun w'=>w'.cell? ⟨gs,k*4,none⟩=some (.int .i64 y1)) (go_keep) (first|(refine step_push rfl (.tmp 48) (.tmp 63) 127 rfl (.agg #[.int .u8 0,.int .i64 0,.int .i64 0]) 24 Tryz.underlying127 Tryz.infoPPlace rfl (by decide) rfl HVLA.out wo.heap.size 1 ⟨s[k].toNat,y1,y1⟩ rfl 131 (0,0) ho1.out rfl (by intro u hu;simp [placeV] at hu;rcases hu with rfl|rfl|rfl <;> rfl) (by omega) (by decide) hbbA.size (wo.heap.size+1) (by simp) ?_;intro gl6 cap6 w6 hown6 hgrow6 hat6 hlt6;have hbb7:=hbbA.trans (below_of_grown hgrow6 (fun b hb=>(HVLA.out.lt hb).1) hbbA.size);have z1:=(hbb7.cell (p:=⟨gs,k*4,none⟩) hgs).trans c0'))
      have hbb6:=hbbA.trans (below_of_grown hgrow6 (fun b hb=>(HVLA.out.lt hb).1) hbbA.size)
      go_wp2
      go_roundw
      case rel=>exact⟨k+1,by omega,by go_num,by rw [HPT.out,← HMK.out];exact hown6,hbb6⟩
      case measure=>simp [intOf];omega
     ·have hm35':(M k == 35)=true:=by rw [← HMK.out];simp at hm35 ⊢;omega
      obtain⟨_,_,_,hrw,_⟩:=HVL.out.row (g:=gl) rfl
      have fz:wo.frozen? ⟨gl,n1*3+2,none⟩=false:=frozen_of_row _ _ _ _ _ hrw
      have HSET:=hide (HVL.out.set (show ∀ a,(placeV a).length=3 from fun _=>rfl) (g:=gl) rfl hpn (j:=2) (by omega) (u:=.int .i64 y1) (a':=⟨q.b,q.first,y1⟩) rfl)
      have HLS:=hide (lastTo_set hn2 hpn y1)
      have HPT:=hide (show joinTo (seNum S) M (k+1)=lastTo PL (seNum S k) by rw [HPS.out,HLB.out,hm35'];rfl)
      have HSN:=hide (show seNum S k=y1 by unfold seNum;rw [hsa])
      have HN2:=hide hn2
      clear hn2 hpn hq' hm35' hrw hsa hmk
      go_wp2
      go_roundw
      case rel=>exact⟨k+1,by omega,by go_num,by rw [HPT.out,HSN.out,HLS.out];exact HSET.out,hbel.setCell (by dsimp only;omega) _⟩
      case measure=>simp [intOf];omega
   ·have hpz:PL=[]:=List.eq_nil_of_length_eq_zero (by omega)
    subst hpz
    have hvn:∃ c0,OwnL 131 3 placeV wo w.heap.size (.slice none 0 c0) ([]:List Pl):=⟨0,OwnL.nil _ _ _ _ _⟩
    clear hvn
    obtain⟨ao2,cap2,hvv⟩:=HVL.out.shape
    simp only [List.length_nil] at hvv
    subst hvv
    have HPT:=hide (show joinTo (seNum S) M (k+1)=[]++[⟨M k,(seAt S k).num,(seAt S k).num⟩] by rw [HPS.out];rfl)
    rw [hsa] at HPT
    simp only at HPT
    have ho1:=hide (Go.heap_alloc_new wo.drew (.cells #[.int .u8 (M k),.int .i64 y1,.int .i64 y1] 131))
    have hbA:Below wo.heap.size wo (wo.drew.alloc (.cells #[.int .u8 (M k),.int .i64 y1,.int .i64 y1] 131)):=(below_drew wo).alloc (Nat.le_refl _) _
    have hbbA:Below w.heap.size w (wo.drew.alloc (.cells #[.int .u8 (M k),.int .i64 y1,.int .i64 y1] 131)):=hbel.trans (hbA.mono hbel.size)
    have HVLA:=hide (HVL.out.below hbA)
    rw [← hmk] at ho1 hbA hbbA HVLA
    clear hsa hmk
    go_wp2_with fail
    go_region_held_law (fun w'=>w'.cell? ⟨gs,k*4,none⟩=some (.int .i64 y1)) (go_keep) (first|(refine step_push rfl (.tmp 48) (.tmp 63) 127 rfl (.agg #[.int .u8 0,.int .i64 0,.int .i64 0]) 24 Tryz.underlying127 Tryz.infoPPlace rfl (by decide) rfl HVLA.out wo.heap.size 1 ⟨s[k].toNat,y1,y1⟩ rfl 131 (0,0) ho1.out rfl (by intro u hu;simp [placeV] at hu;rcases hu with rfl|rfl|rfl <;> rfl) (by omega) (by decide) hbbA.size (wo.heap.size+1) (by simp) ?_;intro gl6 cap6 w6 hown6 hgrow6 hat6 hlt6;have hbb7:=hbbA.trans (below_of_grown hgrow6 (fun b hb=>(HVLA.out.lt hb).1) hbbA.size);have z1:=(hbb7.cell (p:=⟨gs,k*4,none⟩) hgs).trans c0'))
    have hbb6:=hbbA.trans (below_of_grown hgrow6 (fun b hb=>(HVLA.out.lt hb).1) hbbA.size)
    go_wp2
    go_roundw
    case rel=>exact⟨k+1,by omega,by go_num,by rw [HPT.out,← HMK.out];exact hown6,hbb6⟩
    case measure=>simp [intOf];omega
  ·obtain rfl:k=S.length:=by omega
   have hkc:decide ((S.length:Int)<(S.length:Int))=false:=by simp
   go_wp2
   go_ret
   exact⟨_,rfl,by rw [HPL.out];exact HVL.out,hbel⟩
theorem maskedF_lt {S:List Se} {T:Nat→Nat} {L:List Sp} {j:Nat} (h:T j<256):maskedF S T L j<256:=by
 unfold maskedF
 cases (L.any (fun x=>inSp x j) && !(seAt S j).free)
 ·exact h
 ·exact (by decide:(35:Nat)<256)
theorem struckL_le (s:ByteArray) (ps:List ByteArray) (x:Sp) (hx:x ∈ struckL s ps):x.lo≤x.hi∧x.hi≤s.size:=by
 unfold struckL at hx
 obtain⟨p,_,hx⟩:=List.mem_flatMap.1 hx
 exact spans_le s x (List.mem_filter.1 hx).1
theorem vwOf_any (S:List Se) (ps:List ByteArray) (vs va:Value) (w:World) (hvs:SeqV 4 seV w vs S) (hva:SeqV 1 strV w va ps) (hS:S.length≤1000000) (hps:ps.length≤8) (hb:∀ x,x ∈ S→x.b<256) (hv:∀ p,p ∈ ps→validB p=true) :
  Calls Tryz.prog 111 #[vs,va] w fun e w'=>∃ vl,e=.returned vl∧OwnL 131 3 placeV w' w.heap.size vl (placesP S ps)∧Below w.heap.size w w':=by
 have hsz:(seeT S).size=S.length:=by unfold seeT;rw [textF_size];omega
 have H1:=hide (vwTextOf_any S vs w hvs hS hb)
 have H2:=hide (fun (w':World) (hbw:Below w.heap.size w w')=>vwStrike_any (seeT S) ps va w' (hva.below hbw) hps (by omega) hv)
 have hll:(struckL (seeT S) ps).length≤100000000:=by
  have:=struckTo_length (seeT S) ps ps.length
  rw [struckTo_all] at this
  have h2:ps.length*(seeT S).size≤8*1000000:=Nat.mul_le_mul hps (by omega)
  omega
 have H3:=hide (fun (w':World) (vl:Value) (hbw:Below w.heap.size w w') (hvl:SeqV 3 spV w' vl (struckL (seeT S) ps))=>vwMask_any S (seeB S) (struckL (seeT S) ps) vs vl w' (hvs.below hbw) hvl hS hll (fun j=>seeB_lt hb j) (fun x hx=>by have:=struckL_le (seeT S) ps x hx;omega))
 have H4:=hide (fun (w':World) (hbw:Below w.heap.size w w')=>vwJoin_any S (maskedF S (seeB S) (struckL (seeT S) ps)) vs w' (hvs.below hbw) hS (fun j=>maskedF_lt (seeB_lt hb j)))
 have HPP:=hide (show joinTo (seNum S) (maskedF S (seeB S) (struckL (seeT S) ps)) S.length=placesP S ps from rfl)
 rw [HPP.out] at H4
 rw [show textF (seeB S) 0 S.length=seeT S from rfl] at H3
 generalize textF (maskedF S (seeB S) (struckL (seeT S) ps)) 0 S.length=s2 at *
 generalize struckL (seeT S) ps=L at *
 generalize seeT S=s1 at *
 obtain⟨ao,cap,gs,rfl,_,_⟩:=hvs
 obtain⟨ao2,cap2,gs2,rfl,_,_⟩:=hva
 clear hb hv HPP
 go_enter Tryz.func111,Tryz.ntmps111
 go_wp2_with fail
 refine (H1.out).mono ?_
 rintro e w1 ⟨rfl,hb1⟩
 go_wp2_with fail
 refine (H2.out _ hb1).mono ?_
 rintro e w2 ⟨vl,rfl,hvl,hb2⟩
 have hbw2:=hb1.trans (hb2.mono hb1.size)
 have HS:=hide (hvl.seqV (show ∀ a,(spV a).length=3 from fun _=>rfl))
 obtain⟨ao3,cap3,hvv⟩:=hvl.shape
 subst hvv
 go_wp2_with fail
 refine (H3.out _ _ hbw2 HS.out).mono ?_
 rintro e w3 ⟨rfl,hb3⟩
 have hbw3:=hbw2.trans (hb3.mono hbw2.size)
 go_wp2_with fail
 refine (H4.out _ hbw3).mono ?_
 rintro e w4 ⟨vp,rfl,hvp,hb4⟩
 go_wp2
 go_ret
 exact⟨_,rfl,hvp.mono hbw3.size,hbw3.trans (hb4.mono hbw3.size)⟩
end Go.Proofs.YtgigkiocdiffjaaGreat
namespace Go.Proofs.YtgigkiocdiffjaaGreat
open Go.RowKit Veil
def grantIs (a b:Int) (p:Int × Int):Bool:=(p.1 == a) && (p.2 == b)
end Go.Proofs.YtgigkiocdiffjaaGreat
namespace Go.Proofs.YtgigkiocdiffjaaGreat
open Go.RowKit Veil
def countB (c:Cfg) (a:RA) (d:Nat):Bool:=!(a.kind == 5) && c.le a.target d
def RAOk (c:Cfg) (a:RA):Prop:=a.kind≠5→∃ t:Nat,a.target=t∧t<c.n
def verTo (c:Cfg) (acts:List RA) (d k:Nat):Nat:=((acts.take k).filter fun a=>countB c a d).length
theorem verTo_le (c:Cfg) (acts:List RA) (d k:Nat):verTo c acts d k≤k:=by
 unfold verTo
 have h1:=List.length_filter_le (fun a=>countB c a d) (acts.take k)
 have h2:(acts.take k).length≤k:=by simp;omega
 omega
end Go.Proofs.YtgigkiocdiffjaaGreat
namespace Go.Proofs.YtgigkiocdiffjaaGreat
open Go.RowKit Veil
structure No where
 kind:Int
 who:Int
def noV (x:No):List Value:=[.int .i64 x.kind,.int .i64 x.who]
def clearB (a:RA) (d:Nat):Bool:=(a.kind == 5) && (a.who == (d:Int))
def fullB (l:List No):Bool:=decide (4≤l.length) || (decide (l.length=1) && ((l.getD 0 ⟨1,0⟩).kind == 0))
def waitS (c:Cfg) (d:Nat) (l:List No) (a:RA):List No:=
 bif clearB a d then [] else bif !countB c a d || (a.who == (d:Int)) then l else bif fullB l then [⟨0,-1⟩] else l++[⟨a.kind,a.who⟩]
def waitsTo (c:Cfg) (acts:List RA) (d k:Nat):List No:=(acts.take k).foldl (waitS c d) []
theorem Tryz.infoNotice:(Tryz.prog.info? 100).map (fun i=>(i.zero,i.size,i.bytes))=some (some (.agg #[.int .i64 0,.int .i64 0]),2,16):=by kernel_rfl
theorem own_one {α:Type} (e:TypeId) (sz:Nat) (f:α→List Value) (w:World) (B:Nat) (a:α) (hf:(f a).length=sz) (hB:B≤w.heap.size):OwnL e sz f (w.alloc (.cells (f a).toArray e)) B (.slice (some ⟨w.heap.size,0,none⟩) 1 1) [a]:=by
 refine⟨by simp [hf],Or.inr ⟨w.heap.size,1,(f a).toArray,rfl,hB,Go.heap_alloc_new _ _,by simp,by simp [maxLen],by simp [hf],?_⟩⟩
 simp [← hf]
end Go.Proofs.YtgigkiocdiffjaaGreat
namespace Go.Proofs.YtgigkiocdiffjaaGreat
open Go.RowKit Veil
structure Rec where
 who:Int
 cells:Int
 ver:Int
def recV (r:Rec):List Value:=[.int .i64 r.who,.int .i64 r.cells,.int .i64 r.ver]
def logTo (c:Cfg) (acts:List RA) (d:Nat):Nat→List Rec
 | 0=>[]
 | k+1=>match acts[k]? with
  | some a=>bif (a.kind == 4) && (a.target == (d:Int)) then logTo c acts d k++[⟨a.who,a.cells,verTo c acts d (k+1)⟩] else logTo c acts d k
  | none=>logTo c acts d k
end Go.Proofs.YtgigkiocdiffjaaGreat
