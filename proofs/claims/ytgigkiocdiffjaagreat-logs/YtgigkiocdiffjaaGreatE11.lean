import Derived.Test.YtgigkiocdiffjaaGreatE10
set_option maxRecDepth 100000
set_option maxHeartbeats 16000000
namespace Go.Proofs.YtgigkiocdiffjaaGreat
open Go.RowKit Veil
def ownN (rows:List (RC × Value)) (level k:Nat):Nat:=((rows.take k).filter fun p=>p.1.origin == level).length
theorem ownN_yes {rows:List (RC × Value)} {level k:Nat} {p:RC × Value} (h:rows[k]?=some p) (ho:p.1.origin=level):ownN rows level (k+1)=ownN rows level k+1:=by
 unfold ownN;rw [List.take_add_one,h];simp [List.filter_append,ho]
theorem ownN_no {rows:List (RC × Value)} {level k:Nat} {p:RC × Value} (h:rows[k]?=some p) (ho:¬ p.1.origin=level):ownN rows level (k+1)=ownN rows level k:=by
 unfold ownN;rw [List.take_add_one,h];simp [List.filter_append,ho]
theorem ownN_le (rows:List (RC × Value)) (level k:Nat):ownN rows level k≤k:=by
 unfold ownN
 have h1:=List.length_filter_le (fun p:RC × Value=>p.1.origin == level) (rows.take k)
 have h2:(rows.take k).length≤k:=by simp;omega
 omega
theorem rleft_no (c:Cfg) (v:CfgV) (rows:List (RC × Value)) (rv av:Value) (g:Nat) (level:Int) (w:World) (hdoc:RDocR w g c v rows rv av) (hlv:okL c.labels level=false) :
  Calls Tryz.prog 141 #[.pointer (some ⟨g,0,none⟩),.int .i64 level] w fun e w'=>e=.returned (.tuple #[.int .i64 0,.int .i64 6])∧Below w.heap.size w w':=by
 have HLB:=hide (fun w'=>rlabel_any c v level w')
 obtain⟨q0,q1,q2,q3⟩:=hdoc.box.cells
 rw [hlv] at HLB
 unfold cfgCells at HLB
 clear hlv hdoc
 go_enter Tryz.func141,Tryz.ntmps141
 go_wp2_with fail
 refine (HLB.out _).mono ?_
 rintro e w1 ⟨rfl,hb1⟩
 go_wp2
 go_ret2
 exact⟨rfl,hb1⟩
theorem rleft_ok (c:Cfg) (v:CfgV) (rows:List (RC × Value)) (rv av:Value) (g level:Nat) (w:World) (hdoc:RDocR w g c v rows rv av) (hok:RDocOk c rows) (hlv:okL c.labels level=true) :
  Calls Tryz.prog 141 #[.pointer (some ⟨g,0,none⟩),.int .i64 level] w fun e w'=>e=.returned (.tuple #[.int .i64 (200-(ownN rows level rows.length:Int)),.int .i64 0])∧Below w.heap.size w w':=by
 have HLB:=hide (fun w'=>rlabel_any c v level w')
 obtain⟨q0,q1,q2,q3⟩:=hdoc.box.cells
 rw [hlv] at HLB
 unfold cfgCells at HLB
 have HBX:=hide hdoc.box
 have hgl:=hdoc.box.lt
 have hlen:=hok.length
 obtain⟨ao,cap,rb,hrv,hrow,hcells⟩:=hdoc.row
 subst hrv
 have HRW:=hide hrow
 have HCL:=hide hcells
 clear hlv hdoc hok hrow hcells
 go_enter Tryz.func141,Tryz.ntmps141
 go_wp2_with fail
 refine (HLB.out _).mono ?_
 rintro e w1 ⟨rfl,hb1⟩
 clear q0 q1 q2 q3
 go_wp2
 go_loopw [6,7] (fun n i wr=>∃ k:Nat,k≤rows.length∧i=.int .i64 k∧n=.int .i64 (200-(ownN rows level k:Int))∧Below w.heap.size w wr) (fun _ i _=>rows.length-(intOf i).toNat)
 case atStart=>exact⟨0,Nat.zero_le _,rfl,rfl,hb1⟩
 case round=>
  clear hb1
  obtain⟨wo,rfl⟩:∃ x,x=wr:=⟨_,rfl⟩
  obtain⟨k,hk,rfl,rfl,hbel⟩:=hrel
  have r4:=(HBX.out.below hbel hgl).row
  have hle:=ownN_le rows level k
  by_cases hlt:k<rows.length
  ·have hne:rows≠[]:=fun e=>by rw [e] at hlt;simp at hlt
   obtain⟨hao,hrbl⟩:=HRW.out.resolve_left hne
   subst hao
   have hej:rows[k]?=some rows[k]:=List.getElem?_eq_getElem hlt
   have c1:=HCL.out k _ hej 1 (by omega)
   have HY:=hide (fun h=>ownN_yes (level:=level) hej h)
   have HN:=hide (fun h=>ownN_no (level:=level) hej h)
   generalize rows[k]=p at *
   obtain⟨⟨xb,xo,xm⟩,mv⟩:=p
   have d1:wo.cell? ⟨rb,k*3+1,none⟩=some (.int .i64 xo):=(hbel.cell (p:=⟨rb,k*3+1,none⟩) hrbl).trans c1
   have hili:(k:Int)<(rows.length:Int):=by omega
   clear c1 hej hne
   by_cases hxo:xo=level
   ·have HZ:=hide (HY.out hxo)
    have hxi:((xo:Int) == (level:Int))=true:=by simp [hxo]
    clear hxo
    go_wp2
    go_roundw
    case rel=>exact⟨k+1,by omega,by go_num,by rw [HZ.out];go_num,hbel⟩
    case measure=>simp [intOf];omega
   ·have HZ:=hide (HN.out hxo)
    have hxi:((xo:Int) == (level:Int))=false:=by simp;omega
    clear hxo
    go_wp2
    go_roundw
    case rel=>exact⟨k+1,by omega,by go_num,by rw [HZ.out],hbel⟩
    case measure=>simp [intOf];omega
  ·obtain rfl:k=rows.length:=by omega
   go_wp2
   go_ret2
   exact⟨rfl,hbel⟩
def plB (l:List Pl) (j:Nat):Nat:=(l.getD j ⟨0,0,0⟩).b
def viewT (l:List Pl):ByteArray:=textF (plB l) 0 l.length
theorem rview_no (c:Cfg) (v:CfgV) (rows:List (RC × Value)) (rv av:Value) (g:Nat) (level:Int) (w:World) (hdoc:RDocR w g c v rows rv av) (hlv:okL c.labels level=false) :
  Calls Tryz.prog 136 #[.pointer (some ⟨g,0,none⟩),.int .i64 level] w fun e w'=>e=.returned (.tuple #[.string ByteArray.empty,.int .i64 6])∧Below w.heap.size w w':=by
 have HLB:=hide (fun w'=>rlabel_any c v level w')
 obtain⟨q0,q1,q2,q3⟩:=hdoc.box.cells
 rw [hlv] at HLB
 unfold cfgCells at HLB
 clear hlv hdoc
 go_enter Tryz.func136,Tryz.ntmps136
 go_wp2_with fail
 refine (HLB.out _).mono ?_
 rintro e w1 ⟨rfl,hb1⟩
 go_wp2
 go_ret2
 exact⟨rfl,hb1⟩
theorem rview_ok (c:Cfg) (v:CfgV) (rows:List (RC × Value)) (rv av:Value) (g level:Nat) (w:World) (hdoc:RDocR w g c v rows rv av) (hok:RDocOk c rows) (hlv:okL c.labels level=true) (hB:∀ j,plB (placesR c (rows.map (·.1)) level) j<256) (hL:(placesR c (rows.map (·.1)) level).length≤1000000) :
  Calls Tryz.prog 136 #[.pointer (some ⟨g,0,none⟩),.int .i64 level] w fun e w'=>e=.returned (.tuple #[.string (viewT (placesR c (rows.map (·.1)) level)),.int .i64 0])∧Below w.heap.size w w':=by
 obtain⟨_,_,_,_,hn,_,_⟩:=labels_of hok.labels
 obtain⟨lv,hlv1,hlv2⟩:=okL_nat' hn hlv
 obtain rfl:level=lv:=by omega
 have HLB:=hide (fun w'=>rlabel_any c v level w')
 obtain⟨q0,q1,q2,q3⟩:=hdoc.box.cells
 have HPL:=hide (fun (w':World) (hb:Below w.heap.size w w')=>rplaces_any c v rows rv av g level w' (hdoc.below hb) hok hlv2)
 rw [hlv] at HLB
 unfold cfgCells at HLB
 generalize hP:placesR c (rows.map (·.1)) level=P at *
 have HB6:=hide hB
 clear hlv hdoc hok hP hlv1 hlv2 hn hB
 go_enter Tryz.func136,Tryz.ntmps136
 go_wp2_with fail
 refine (HLB.out _).mono ?_
 rintro e w1 ⟨rfl,hb1⟩
 clear q0 q1 q2 q3
 go_wp2_with fail
 refine (HPL.out _ hb1).mono ?_
 rintro e w2 ⟨vl,rfl,hvl,hb2⟩
 have hbel2:=hb1.trans (hb2.mono hb1.size)
 have HVL:=hide hvl
 obtain⟨ao,cap,hvv⟩:=hvl.shape
 subst hvv
 clear hvl hb1 hb2
 go_wp2
 go_loopw [7,8] (fun s i wr=>∃ k:Nat,k≤P.length∧i=.int .i64 k∧s=.string (textF (plB P) 0 k)∧Below w2.heap.size w2 wr) (fun _ i _=>P.length-(intOf i).toNat)
 case atStart=>exact⟨0,Nat.zero_le _,rfl,by rw [textF_self];rfl,Below.refl _ _⟩
 case round=>
  obtain⟨wo,rfl⟩:∃ x,x=wr:=⟨_,rfl⟩
  obtain⟨k,hk,rfl,rfl,hbel⟩:=hrel
  by_cases hlt:k<P.length
  ·obtain⟨gp,cp,hvv,_,hgp⟩:=HVL.out.form (by omega)
   simp only [Value.slice.injEq] at hvv
   obtain⟨rfl,_,rfl⟩:=hvv
   have hej:P[k]?=some P[k]:=List.getElem?_eq_getElem hlt
   have c0:w2.cell? ⟨gp,k*3,none⟩=some (.int .u8 (plB P k)):=by
    have:=HVL.out.cell (show ∀ a,(placeV a).length=3 from fun _=>rfl) rfl hej (j:=0) (by omega)
    rw [show plB P k=P[k].b by simp [plB,List.getD,hej]]
    exact this
   have d0:wo.cell? ⟨gp,k*3,none⟩=some (.int .u8 (plB P k)):=(hbel.cell (p:=⟨gp,k*3,none⟩) hgp).trans c0
   have hili:(k:Int)<(P.length:Int):=by omega
   have HTS:=hide (textF_succ (plB P) 0 k (Nat.zero_le _))
   have hcv:=run_conv1 wo (plB P k) (HB6.out k)
   have hadd:∀ w',(Op.stringOp .add (textF (plB P) 0 k) ⟨#[UInt8.ofNat (plB P k)]⟩).run Tryz.prog w'=.ok (.string (textF (plB P) 0 (k+1))) w':=fun w'=>by
    rw [HTS.out]
    refine run_string_add_sum _ _ _ ?_
    rw [textF_size]
    have:(⟨#[UInt8.ofNat (plB P k)]⟩:ByteArray).size=1:=rfl
    omega
   clear hej c0
   go_wp2
   go_roundw
   case rel=>exact⟨k+1,by omega,by go_num,rfl,hbel.alloc hbel.size _⟩
   case measure=>simp [intOf];omega
  ·obtain rfl:k=P.length:=by omega
   go_wp2
   go_ret2
   exact⟨rfl,hbel2.trans (hbel.mono hbel2.size)⟩
end Go.Proofs.YtgigkiocdiffjaaGreat
namespace Go.Proofs.YtgigkiocdiffjaaGreat
open Go.RowKit Veil
def thR (c:Cfg) (row:List RC) (d r:Nat):Bool:=thereB c (cellAt row r) d
def cellsIn (c:Cfg) (row:List RC) (d first i:Nat):List Nat:=(List.range' first (i-first)).filter (thR c row d)
def plAt (P:List Pl) (k:Nat):Pl:=P.getD k ⟨0,0,0⟩
def cellsTo (c:Cfg) (row:List RC) (d:Nat) (P:List Pl) (a k:Nat):List Nat:=(List.range' a (k-a)).flatMap fun j=>cellsIn c row d (plAt P j).first ((plAt P j).last+1)
theorem cellsIn_yes {c:Cfg} {row:List RC} {d first i:Nat} (hi:first≤i) (h:thR c row d i=true):cellsIn c row d first (i+1)=cellsIn c row d first i++[i]:=by
 unfold cellsIn
 rw [show i+1-first=(i-first)+1 by omega,List.range'_concat,List.filter_append,show first+1*(i-first)=i by omega]
 simp [h]
theorem cellsIn_no {c:Cfg} {row:List RC} {d first i:Nat} (hi:first≤i) (h:thR c row d i=false):cellsIn c row d first (i+1)=cellsIn c row d first i:=by
 unfold cellsIn
 rw [show i+1-first=(i-first)+1 by omega,List.range'_concat,List.filter_append,show first+1*(i-first)=i by omega]
 simp [h]
theorem cellsTo_succ {c:Cfg} {row:List RC} {d:Nat} {P:List Pl} {a k:Nat} (h:a≤k):cellsTo c row d P a (k+1)=cellsTo c row d P a k++cellsIn c row d (plAt P k).first ((plAt P k).last+1):=by
 unfold cellsTo
 rw [show k+1-a=(k-a)+1 by omega,List.range'_concat,List.flatMap_append,show a+1*(k-a)=k by omega]
 simp
theorem cellsIn_length (c:Cfg) (row:List RC) (d first i:Nat):(cellsIn c row d first i).length≤i-first:=by
 unfold cellsIn
 have:=List.length_filter_le (thR c row d) (List.range' first (i-first))
 simpa using this
theorem rcells_no (c:Cfg) (v:CfgV) (rows:List (RC × Value)) (rv av:Value) (g d:Nat) (a b:Int) (w:World) (hdoc:RDocR w g c v rows rv av) (hok:RDocOk c rows) (hd:d<c.n) (hno:a<0∨b≤a∨((placesR c (rows.map (·.1)) d).length:Int)<b) :
  Calls Tryz.prog 159 #[.pointer (some ⟨g,0,none⟩),.int .i64 d,.int .i64 a,.int .i64 b] w fun e w'=>e=.returned (.tuple #[.slice none 0 0,.bool false])∧Below w.heap.size w w':=by
 have HPL:=hide (rplaces_any c v rows rv av g d w hdoc hok hd)
 generalize placesR c (rows.map (·.1)) d=P at *
 clear hdoc hok hd
 have hcs:a<0∨(0≤a∧b≤a)∨(0≤a∧a<b∧(P.length:Int)<b):=by omega
 clear hno
 rcases hcs with h1|⟨h1,h2⟩|⟨h1,h2,h3⟩
 ·go_enter Tryz.func159,Tryz.ntmps159
  go_wp2_with fail
  refine (HPL.out).mono ?_
  rintro e w1 ⟨vl,rfl,hvl,hb1⟩
  go_wp2
  go_ret2
  exact⟨rfl,hb1⟩
 ·go_enter Tryz.func159,Tryz.ntmps159
  go_wp2_with fail
  refine (HPL.out).mono ?_
  rintro e w1 ⟨vl,rfl,hvl,hb1⟩
  go_wp2
  go_ret2
  exact⟨rfl,hb1⟩
 ·go_enter Tryz.func159,Tryz.ntmps159
  go_wp2_with fail
  refine (HPL.out).mono ?_
  rintro e w1 ⟨vl,rfl,hvl,hb1⟩
  obtain⟨ao,cap,hvv⟩:=hvl.shape
  subst hvv
  clear hvl
  go_wp2
  go_ret2
  exact⟨rfl,hb1⟩
theorem rcells_ok (c:Cfg) (v:CfgV) (rows:List (RC × Value)) (rv av:Value) (g d a b:Nat) (w:World) (hdoc:RDocR w g c v rows rv av) (hok:RDocOk c rows) (hd:d<c.n) (hab:a<b) (hbl:b≤(placesR c (rows.map (·.1)) d).length) (hL:(placesR c (rows.map (·.1)) d).length≤rows.length) (hpl:∀ p,p ∈ placesR c (rows.map (·.1)) d→p.first≤p.last∧p.last<rows.length) :
  Calls Tryz.prog 159 #[.pointer (some ⟨g,0,none⟩),.int .i64 d,.int .i64 a,.int .i64 b] w fun e w'=>∃ vl,e=.returned (.tuple #[vl,.bool true])∧OwnL 3 1 intV w' w.heap.size vl (cellsTo c (rows.map (·.1)) d (placesR c (rows.map (·.1)) d) a b)∧Below w.heap.size w w':=by
 have HPL:=hide (rplaces_any c v rows rv av g d w hdoc hok hd)
 have HTH:=hide (fun (x:RC) (mv:Value) (w':World) (hb:Below w.heap.size w w') (hm:SeqV 3 markV w' mv x.marks) (hx:RCOk c x) (hl:x.marks.length≤140737488355328)=>rthere_any c v rv av g x mv d w' hok.labels (hdoc.cfg.below hb) (hdoc.box.below hb hdoc.box.lt) hm hx hd hl)
 have HDOC:=hide hdoc
 have HOK:=hide hok
 obtain⟨ao,cap,rb,hrv,hrow,hcells⟩:=hdoc.row
 subst hrv
 have HRW:=hide hrow
 have HCL:=hide hcells
 have hgl:=hdoc.box.lt
 have hlen:=hok.length
 generalize hrr:rows.map (·.1)=row at *
 generalize placesR c row d=P at *
 have HPP:=hide hpl
 have HRR:=hide hrr
 have hd1:decide ((a:Int)<0)=false:=by simp
 have hd2:decide (b≤a)=false:=by simp;omega
 have hd3:decide (P.length<b)=false:=by simp;omega
 have hd4:¬ b≤a:=by omega
 have hd5:¬ P.length<b:=by omega
 clear hdoc hok hrow hcells hrr hpl
 go_enter Tryz.func159,Tryz.ntmps159
 go_wp2_with fail
 refine (HPL.out).mono ?_
 rintro e wp ⟨vl,rfl,hvl,hbp⟩
 obtain⟨aop,capp,hvv⟩:=hvl.shape
 subst hvv
 have HVP:=hide hvl
 clear hvl
 go_wp2
 go_loopw [11,12] (fun vo i wr=>∃ k:Nat,a≤k∧k≤b∧i=.int .i64 k∧OwnL 3 1 intV wr wp.heap.size vo (cellsTo c row d P a k)∧(cellsTo c row d P a k).length≤(k-a)*rows.length∧Below wp.heap.size wp wr) (fun _ i _=>b-(intOf i).toNat)
 case atStart=>exact⟨a,Nat.le_refl _,by omega,rfl,by simp only [cellsTo,Nat.sub_self];exact OwnL.nil _ _ _ _ _,by simp [cellsTo],Below.refl _ _⟩
 case round=>
  obtain⟨wo,rfl⟩:∃ x,x=wr:=⟨_,rfl⟩
  obtain⟨k,hk1,hk2,rfl,hvo,hcl,hbel⟩:=hrel
  have HVO:=hide hvo
  clear hvo
  by_cases hlt:k<b
  ·have hkP:k<P.length:=by omega
   obtain⟨gp,cp,hvv,hgB,hgp⟩:=HVP.out.form (by omega)
   simp only [Value.slice.injEq] at hvv
   obtain⟨rfl,_,rfl⟩:=hvv
   have hej:P[k]?=some P[k]:=List.getElem?_eq_getElem hkP
   have c1:=HVP.out.cell (show ∀ a,(placeV a).length=3 from fun _=>rfl) rfl hej (j:=1) (by omega)
   have c2:=HVP.out.cell (show ∀ a,(placeV a).length=3 from fun _=>rfl) rfl hej (j:=2) (by omega)
   obtain⟨hp1,hp2⟩:=HPP.out _ (List.getElem_mem hkP)
   have HPA:=hide (show plAt P k=P[k] by simp [plAt,List.getD,hej])
   generalize P[k]=p at *
   obtain⟨pb,pf,pl⟩:=p
   simp only at hp1 hp2
   have HCS:=hide (show cellsTo c row d P a (k+1)=cellsTo c row d P a k++cellsIn c row d pf (pl+1) by rw [cellsTo_succ hk1,HPA.out])
   have d1:wo.cell? ⟨gp,k*3+1,none⟩=some (.int .i64 pf):=(hbel.cell (p:=⟨gp,k*3+1,none⟩) hgp).trans c1
   have hki:(k:Int)<(P.length:Int):=by omega
   have hkb:(k:Int)<(b:Int):=by omega
   generalize hC0:cellsTo c row d P a k=C0 at *
   have hmul:(k-a)*rows.length≤rows.length*rows.length:=Nat.mul_le_mul_right _ (by omega)
   have hsq:rows.length*rows.length≤1000000*1000000:=Nat.mul_le_mul hlen hlen
   have HC2:=hide c2
   clear hej c1 c2 hC0
   go_wp2
   go_loopw [11,13] (fun vo i wr=>∃ r:Nat,pf≤r∧r≤pl+1∧i=.int .i64 r∧OwnL 3 1 intV wr wp.heap.size vo (C0++cellsIn c row d pf r)∧Below wp.heap.size wp wr) (fun _ i _=>pl+1-(intOf i).toNat)
   case atStart=>exact⟨pf,Nat.le_refl _,by omega,rfl,by simp only [cellsIn,Nat.sub_self];simpa using HVO.out,hbel⟩
   case round=>
    clear hbel d1
    obtain⟨wi,rfl⟩:∃ x,x=wr:=⟨_,rfl⟩
    obtain⟨r,hr1,hr2,rfl,hvi,hbi⟩:=hrel
    have HVI:=hide hvi
    have d2:wi.cell? ⟨gp,k*3+2,none⟩=some (.int .i64 pl):=(hbi.cell (p:=⟨gp,k*3+2,none⟩) hgp).trans HC2.out
    have hbelw:=hbp.trans (hbi.mono hbp.size)
    clear hvi
    by_cases hrl:r≤pl
    ·have hrr2:r<rows.length:=by omega
     have hne:rows≠[]:=fun e=>by rw [e] at hrr2;simp at hrr2
     obtain⟨hao,hrbl⟩:=HRW.out.resolve_left hne
     subst hao
     have hej:rows[r]?=some rows[r]:=List.getElem?_eq_getElem hrr2
     have hmem:=List.getElem_mem hrr2
     have c0:=HCL.out r _ hej 0 (by omega)
     have c1:=HCL.out r _ hej 1 (by omega)
     have c2:=HCL.out r _ hej 2 (by omega)
     have HCA:=hide (show cellAt row r=rows[r].1 by rw [← HRR.out];exact cellAt_map _ hej)
     obtain⟨hx,hxl⟩:=HOK.out.cells _ hmem
     have hms:=(HDOC.out.marks _ hmem).below hbelw
     generalize rows[r]=p at *
     obtain⟨⟨xb,xo,xm⟩,mv⟩:=p
     simp only at hx hxl hms HCA
     have e0:wi.cell? ⟨rb,r*3,none⟩=some (.int .u8 xb):=(hbelw.cell (p:=⟨rb,r*3,none⟩) hrbl).trans c0
     have e1:wi.cell? ⟨rb,r*3+1,none⟩=some (.int .i64 xo):=(hbelw.cell (p:=⟨rb,r*3+1,none⟩) hrbl).trans c1
     have e2:wi.cell? ⟨rb,r*3+2,none⟩=some mv:=(hbelw.cell (p:=⟨rb,r*3+2,none⟩) hrbl).trans c2
     have r4:=(HDOC.out.box.below hbelw hgl).row
     have hri:(r:Int)<(rows.length:Int):=by omega
     have hrp:(r:Int)≤(pl:Int):=by omega
     have HT1:=hide (HTH.out ⟨xb,xo,xm⟩ mv wi hbelw hms hx hxl)
     unfold rcC at HT1
     simp only at HT1
     clear c0 c1 c2 hej hmem hne hms hx hxl
     go_wp2_with fail
     refine (HT1.out).mono ?_
     rintro e w1 ⟨rfl,hb1⟩
     have hbi1:=hbi.trans (hb1.mono hbi.size)
     have HVI1:=hide (HVI.out.below hb1)
     clear e0 e1 e2 r4 d2 hb1
     cases hth:thereB c ⟨xb,xo,xm⟩ d
     ·have HZ:=hide (cellsIn_no hr1 (show thR c row d r=false by unfold thR;rw [HCA.out];exact hth))
      clear hth
      go_wp2
      go_roundw
      case rel=>exact⟨r+1,by omega,by omega,by go_num,by rw [HZ.out];exact HVI1.out,hbi1⟩
      case measure=>simp [intOf];omega
     ·have HZ:=hide (cellsIn_yes hr1 (show thR c row d r=true by unfold thR;rw [HCA.out];exact hth))
      have hbA:Below w1.heap.size w1 (w1.alloc (.cells #[.int .i64 r] 3)):=below_box w1 _
      have hbiA:Below wp.heap.size wp (w1.alloc (.cells #[.int .i64 r] 3)):=hbi1.alloc hbi1.size _
      have HVIA:=hide (HVI1.out.below hbA)
      have HNA:=hide (Go.heap_alloc_new w1 (.cells #[.int .i64 r] 3))
      have hln:=cellsIn_length c row d pf r
      have hlen2:(C0++cellsIn c row d pf r).length≤2000000000000:=by rw [List.length_append];omega
      clear hth hln
      go_wp2_with (at_builtin;refine wpList_push rfl (.tmp 62) (.tmp 64) 25 rfl (.int .i64 0) 8 Tryz.underlying25 Tryz.infoInt rfl (by decide) rfl HVIA.out w1.heap.size 1 r rfl 3 (0,0) HNA.out rfl (by intro u hu;simp [intV] at hu;subst hu;rfl) (by omega) (by decide) hbiA.size (w1.heap.size+1) (by simp) ?_;intro gl cap6 w6 hown6 hgrow6 hat6 hlt6)
      have hbi6:=hbiA.trans (below_of_grown hgrow6 (fun b hb=>(HVIA.out.lt hb).1) hbiA.size)
      go_roundw
      case rel=>exact⟨r+1,by omega,by omega,by go_num,by rw [HZ.out,← List.append_assoc];simpa only [List.length_append] using hown6,hbi6⟩
      case measure=>simp [intOf];omega
    ·obtain rfl:r=pl+1:=by omega
     have hrp:decide (((pl+1:Nat):Int)≤(pl:Int))=false:=by simp;omega
     have hln:=cellsIn_length c row d pf (pl+1)
     go_wp2
     go_roundw
     case rel=>exact⟨k+1,by omega,by omega,by go_num,by rw [HCS.out];exact HVI.out,by rw [HCS.out,List.length_append,show k+1-a=(k-a)+1 by omega,Nat.add_mul];omega,hbi⟩
     case measure=>simp [intOf];omega
  ·obtain rfl:k=b:=by omega
   have hkc:decide ((k:Int)<(k:Int))=false:=by simp
   obtain⟨aoo,capo,hvv⟩:=HVO.out.shape
   subst hvv
   go_wp2
   go_ret2
   exact⟨_,rfl,HVO.out.mono hbp.size,hbp.trans (hbel.mono hbp.size)⟩
end Go.Proofs.YtgigkiocdiffjaaGreat
namespace Go.Proofs.YtgigkiocdiffjaaGreat
open Go.RowKit Veil
inductive Part where
 | box
 | row
 | acts
 | mk (i:Nat)
structure Parts (B N:Nat) (blk:Part→Option Nat):Prop where
 apart:∀ s t b,blk s=some b→blk t=some b→s=t
 low:∀ s b,blk s=some b→B≤b∧b<N
theorem Parts.upd {B N N':Nat} {blk blk':Part→Option Nat} (h:Parts B N blk) (s0:Part) (hN:N≤N') (hB:B≤N) (hsame:∀ t,t≠s0→blk' t=blk t) (hnew:∀ b,blk' s0=some b→blk s0=some b∨(N≤b∧b<N')):Parts B N' blk':=by
 have key:∀ t b,t≠s0→blk' t=some b→blk' s0=some b→False:=fun t b ht h1 h2=>by
  rw [hsame t ht] at h1
  rcases hnew b h2 with h3|h3
  ·exact ht (h.apart t s0 b h1 h3)
  ·have:=(h.low t b h1).2;omega
 refine⟨fun s t b h1 h2=>?_,fun s b h1=>?_⟩
 ·by_cases hs:s=s0
  ·by_cases ht:t=s0
   ·rw [hs,ht]
   ·subst hs;exact absurd (key t b ht h2 h1) (fun h=>h)
  ·by_cases ht:t=s0
   ·subst ht;exact absurd (key s b hs h1 h2) (fun h=>h)
   ·rw [hsame s hs] at h1
    rw [hsame t ht] at h2
    exact h.apart s t b h1 h2
 ·by_cases hs:s=s0
  ·subst hs
   rcases hnew b h1 with h3|h3
   ·have:=h.low s b h3;omega
   ·omega
  ·rw [hsame s hs] at h1
   have:=h.low s b h1;omega
def blkOf' (g:Nat) (rv av:Value) (rows:List (RC × Value)):Part→Option Nat
 | .box=>some g
 | .row=>rv.ownBlock
 | .acts=>av.ownBlock
 | .mk i=>(rows[i]?).bind fun p=>p.2.ownBlock
structure Only (F:Nat→Prop) (w w':World):Prop where
 os:w'.os=w.os
 tape:w'.tape=w.tape
 output:w'.output=w.output
 size:w.heap.size≤w'.heap.size
 block:∀ k,k<w.heap.size→¬ F k→w'.heap[k]?=w.heap[k]?
theorem Only.refl (F:Nat→Prop) (w:World):Only F w w:=⟨rfl,rfl,rfl,Nat.le_refl _,fun _ _ _=>rfl⟩
theorem Only.trans {F F':Nat→Prop} {w w' w'':World} (h:Only F w w') (h':Only F' w' w'') (hF:∀ k,F' k→F k∨w.heap.size≤k):Only F w w'':=
 ⟨h'.os.trans h.os,h'.tape.trans h.tape,h'.output.trans h.output,Nat.le_trans h.size h'.size,fun k hk hn=>(h'.block k (Nat.lt_of_lt_of_le hk h.size) (fun hf=>by rcases hF k hf with h1|h1;exact hn h1;omega)).trans (h.block k hk hn)⟩
theorem Only.of_below {F:Nat→Prop} {w w':World} (h:Below w.heap.size w w'):Only F w w':=⟨h.os,h.tape,h.output,h.size,fun k hk _=>h.block k hk⟩
theorem Only.below {F:Nat→Prop} {w w':World} {B:Nat} (h:Only F w w') (hF:∀ k,F k→B≤k) (hB:B≤w.heap.size):Below B w w':=⟨h.os,h.tape,h.output,h.size,fun k hk=>h.block k (by omega) (fun hf=>by have:=hF k hf;omega)⟩
def actV (a:RA):List Value:=[.int .i64 a.kind,.int .i64 a.who,.int .i64 a.target,.int .i64 a.cells]
structure RDocO (w0 w:World) (g:Nat) (c:Cfg) (v:CfgV) (rows:List (RC × Value)) (acts:List RA) (rv av:Value):Prop where
 box:RBox w g c v rv av
 cfg:CfgAt w0 c v
 old:Below w0.heap.size w0 w
 row:OwnL 223 3 cellV w w0.heap.size rv rows
 marks:∀ (i:Nat) (p:RC × Value),rows[i]?=some p→OwnL 230 3 markV w w0.heap.size p.2 p.1.marks
 acts:OwnL 225 4 actV w w0.heap.size av acts
 parts:Parts w0.heap.size w.heap.size (blkOf' g rv av rows)
theorem RDocO.read {w0 w:World} {g:Nat} {c:Cfg} {v:CfgV} {rows:List (RC × Value)} {acts:List RA} {rv av:Value} (h:RDocO w0 w g c v rows acts rv av):RDocR w g c v rows rv av:=
 ⟨h.box,h.cfg.below h.old,h.row.seqV (fun _=>rfl),fun p hp=>by
  obtain⟨i,hi,he⟩:=List.getElem_of_mem hp
  exact (h.marks i p (by rw [← he];exact List.getElem?_eq_getElem hi)).seqV (fun _=>rfl)⟩
theorem RDocO.kept {w0 w w':World} {g:Nat} {c:Cfg} {v:CfgV} {rows:List (RC × Value)} {acts:List RA} {rv av:Value} {F:Nat→Prop} (h:RDocO w0 w g c v rows acts rv av) (ho:Only F w w') (hF:∀ k,F k→w0.heap.size≤k) (hap:∀ s b,blkOf' g rv av rows s=some b→¬ F b):RDocO w0 w' g c v rows acts rv av:=by
 have hsz:w0.heap.size≤w.heap.size:=h.old.size
 have keep:∀ {α:Type} {e:TypeId} {sz:Nat} {f:α→List Value} {x:Value} {l:List α},OwnL e sz f w w0.heap.size x l→(∀ b,x.ownBlock=some b→¬ F b)→OwnL e sz f w' w0.heap.size x l:=by
  intro α e sz f x l hx hb
  refine⟨hx.1,hx.2.imp id ?_⟩
  rintro ⟨gg,cap,cur,h1,h2,h3,h4⟩
  refine⟨gg,cap,cur,h1,h2,?_,h4⟩
  rw [ho.block gg (lt_of_row h3) (hb gg (by rw [h1];rfl))]
  exact h3
 refine⟨?_,h.cfg,h.old.trans (ho.below hF hsz),keep h.row (fun b hb=>hap .row b hb),fun i p hp=>keep (h.marks i p hp) (fun b hb=>hap (.mk i) b (by simp only [blkOf',hp,Option.bind_some];exact hb)),keep h.acts (fun b hb=>hap .acts b hb),⟨h.parts.apart,fun s b hb=>⟨(h.parts.low s b hb).1,Nat.lt_of_lt_of_le (h.parts.low s b hb).2 ho.size⟩⟩⟩
 exact (ho.block g h.box.lt (hap .box g rfl)).trans h.box
def markAt (rows:List (RC × Value)) (r:Nat) (m:Mk) (mv:Value):List (RC × Value):=rows.modify r fun p=>(⟨p.1.b,p.1.origin,p.1.marks++[m]⟩,mv)
def markC (row:List RC) (r:Nat) (m:Mk):List RC:=row.modify r fun x=>⟨x.b,x.origin,x.marks++[m]⟩
def markAll (row:List RC) (L:List Nat) (m:Mk):List RC:=L.foldl (fun row r=>markC row r m) row
theorem markAt_set {rows:List (RC × Value)} {r:Nat} {m:Mk} {mv:Value} {p:RC × Value} (hp:rows[r]?=some p):markAt rows r m mv=rows.set r (⟨p.1.b,p.1.origin,p.1.marks++[m]⟩,mv):=by
 have hlt:r<rows.length:=(List.getElem?_eq_some_iff.1 hp).1
 have he:rows[r]=p:=(List.getElem?_eq_some_iff.1 hp).2
 unfold markAt
 apply List.ext_getElem?
 intro i
 rw [List.getElem?_modify,List.getElem?_set]
 by_cases h:r=i
 ·subst h;simp [hlt,he]
 ·simp [h]
theorem markAt_map (rows:List (RC × Value)) (r:Nat) (m:Mk) (mv:Value):(markAt rows r m mv).map (·.1)=markC (rows.map (·.1)) r m:=by
 unfold markAt markC
 apply List.ext_getElem?
 intro i
 rw [List.getElem?_map,List.getElem?_modify,List.getElem?_modify,List.getElem?_map]
 cases rows[i]? with
 | none=>rfl
 | some p=>by_cases h:r=i <;> simp [h]
end Go.Proofs.YtgigkiocdiffjaaGreat
namespace Go.Proofs.YtgigkiocdiffjaaGreat
open Go.RowKit Veil
theorem size_setCell' (w:World) (a:Addr) (u:Value):(w.setCell a u).heap.size=w.heap.size:=by simp
theorem grown_setCell (w:World) (a:Addr) (u:Value):w.grownBy (w.setCell a u) (some a.block):=
 ⟨rfl,rfl,rfl,by simp,fun k hk hne=>heap_setCell_other _ _ _ _ (fun e=>hne (by rw [e]))⟩
theorem markAt_get {rows:List (RC × Value)} {r:Nat} {m:Mk} {mv:Value} {p:RC × Value} (hp:rows[r]?=some p):(markAt rows r m mv)[r]?=some (⟨p.1.b,p.1.origin,p.1.marks++[m]⟩,mv)∧∀ i,i≠r→(markAt rows r m mv)[i]?=rows[i]?:=by
 have hlt:r<rows.length:=(List.getElem?_eq_some_iff.1 hp).1
 rw [markAt_set hp]
 refine⟨by simp [hlt],fun i hi=>?_⟩
 rw [List.getElem?_set]
 simp [Ne.symm hi]
section
variable {w0 w w1 w2:World} {g:Nat} {c:Cfg} {v:CfgV} {rows:List (RC × Value)} {acts:List RA} {rv av:Value}
theorem markStep {r g' cap' rb:Nat} {m:Mk} {p:RC × Value} (h:RDocO w0 w g c v rows acts rv av) (hp:rows[r]?=some p) (hrb:rv.ownBlock=some rb) (h1:Below w.heap.size w w1)
  (hown:OwnL 230 3 markV w2 w0.heap.size (.slice (some ⟨g',0,none⟩) (p.1.marks.length+1) cap') (p.1.marks++[m])) (hgrow:w1.grownBy w2 p.2.ownBlock) (hat:p.2.ownBlock=some g'∨g'=w1.heap.size) (hlt:g'<w2.heap.size) :
  RDocO w0 (w2.setCell ⟨rb,r*3+2,none⟩ (.slice (some ⟨g',0,none⟩) (p.1.marks.length+1) cap')) g c v (markAt rows r m (.slice (some ⟨g',0,none⟩) (p.1.marks.length+1) cap')) acts rv av ∧
  Only (fun k=>∃ s,blkOf' g rv av rows s=some k) w (w2.setCell ⟨rb,r*3+2,none⟩ (.slice (some ⟨g',0,none⟩) (p.1.marks.length+1) cap')) ∧
  (∀ s b,blkOf' g rv av (markAt rows r m (.slice (some ⟨g',0,none⟩) (p.1.marks.length+1) cap')) s=some b→(∃ s,blkOf' g rv av rows s=some b)∨w.heap.size≤b):=by
 obtain⟨hg1,hg2⟩:=markAt_get (m:=m) (mv:=.slice (some ⟨g',0,none⟩) (p.1.marks.length+1) cap') hp
 have hmk:blkOf' g rv av rows (.mk r)=p.2.ownBlock:=by simp only [blkOf',hp,Option.bind_some]
 have hrow:blkOf' g rv av rows .row=some rb:=hrb
 have hrlt:r<rows.length:=(List.getElem?_eq_some_iff.1 hp).1
 have hgp:g≠rb:=fun e=>by subst e;cases h.parts.apart .box .row g rfl hrow
 have hpg:∀ b,p.2.ownBlock=some b→b≠g∧b≠rb:=fun b hb=>⟨(fun e=>by subst e;cases h.parts.apart .box (.mk r) b rfl (hmk.trans hb)),(fun e=>by subst e;cases h.parts.apart .row (.mk r) b hrow (hmk.trans hb))⟩
 have hrbl:=(h.parts.low .row rb hrow)
 have hg'rb:g'≠rb:=fun e=>by
  rcases hat with h3|h3
  ·exact (hpg g' h3).2 e
  ·have:=h1.size;omega
 have hsz2:w.heap.size≤w2.heap.size:=Nat.le_trans h1.size hgrow.size
 have hB0:=h.old.size
 have k2:∀ {α:Type} {e:TypeId} {sz:Nat} {f:α→List Value} {x:Value} {l:List α},OwnL e sz f w w0.heap.size x l→(∀ b,x.ownBlock=some b→p.2.ownBlock=some b→False)→OwnL e sz f w2 w0.heap.size x l:=fun hx hb=>(hx.below h1).kept hgrow hb
 have k3:∀ {α:Type} {e:TypeId} {sz:Nat} {f:α→List Value} {x:Value} {l:List α},OwnL e sz f w2 w0.heap.size x l→(∀ b,x.ownBlock=some b→b≠rb)→OwnL e sz f (w2.setCell ⟨rb,r*3+2,none⟩ (.slice (some ⟨g',0,none⟩) (p.1.marks.length+1) cap')) w0.heap.size x l:=fun hx hb=>hx.kept (grown_setCell _ _ _) (fun b hb1 hb2=>hb b hb1 (Option.some.inj hb2).symm)
 have hpart:∀ s,s≠.mk r→blkOf' g rv av (markAt rows r m (.slice (some ⟨g',0,none⟩) (p.1.marks.length+1) cap')) s=blkOf' g rv av rows s:=by
  intro s hs
  cases s with
  | mk i=>simp only [blkOf'];rw [hg2 i (fun e=>hs (by rw [e]))]
  | _=>rfl
 have hpartr:blkOf' g rv av (markAt rows r m (.slice (some ⟨g',0,none⟩) (p.1.marks.length+1) cap')) (.mk r)=some g':=by simp only [blkOf',hg1,Option.bind_some,Value.ownBlock]
 have hnew:∀ b,blkOf' g rv av (markAt rows r m (.slice (some ⟨g',0,none⟩) (p.1.marks.length+1) cap')) (.mk r)=some b→blkOf' g rv av rows (.mk r)=some b∨(w.heap.size≤b∧b<w2.heap.size):=by
  intro b hb
  rw [hpartr] at hb
  obtain rfl:=Option.some.inj hb
  rcases hat with h3|h3
  ·exact Or.inl (hmk.trans h3)
  ·right;have:=h1.size;omega
 refine⟨⟨?_,h.cfg,?_,?_,?_,?_,?_⟩,?_,?_⟩
 ·have e1:w2.heap[g]?=w.heap[g]?:=by
   rw [hgrow.block g (Nat.lt_of_lt_of_le h.box.lt h1.size) (fun e=>(hpg g e.symm).1 rfl),h1.block g h.box.lt]
  unfold RBox
  rw [heap_setCell_other _ _ _ _ hgp,e1]
  exact h.box
 ·refine⟨?_,?_,?_,?_,?_⟩
  ·exact hgrow.os.trans (h1.os.trans h.old.os)
  ·exact hgrow.tape.trans (h1.tape.trans h.old.tape)
  ·exact hgrow.output.trans (h1.output.trans h.old.output)
  ·rw [size_setCell'];omega
  ·intro k hk
   rw [heap_setCell_other _ _ _ _ (show k≠rb by omega),hgrow.block k (by have:=h1.size;omega) (fun e=>by have:=(h.parts.low (.mk r) k (hmk.trans e.symm)).1;omega),h1.block k (by omega)]
   exact h.old.block k hk
 ·have:=(k2 h.row (fun b hb1 hb2=>(hpg b hb2).2 (by rw [hrb] at hb1;exact (Option.some.inj hb1).symm))).set (show ∀ a,(cellV a).length=3 from fun _=>rfl) hrb hp (j:=2) (by omega) (u:=.slice (some ⟨g',0,none⟩) (p.1.marks.length+1) cap') (a':=(⟨p.1.b,p.1.origin,p.1.marks++[m]⟩,.slice (some ⟨g',0,none⟩) (p.1.marks.length+1) cap')) rfl
  rw [markAt_set hp]
  exact this
 ·intro i q hq
  by_cases hi:i=r
  ·subst hi
   rw [hg1] at hq
   obtain rfl:=Option.some.inj hq
   simp only
   exact k3 hown (fun b hb=>by rw [← Option.some.inj hb];exact hg'rb)
  ·rw [hg2 i hi] at hq
   have hbi:blkOf' g rv av rows (.mk i)=q.2.ownBlock:=by simp only [blkOf',hq,Option.bind_some]
   refine k3 (k2 (h.marks i q hq) (fun b hb1 hb2=>?_)) (fun b hb=>fun e=>?_)
   ·have:=h.parts.apart (.mk i) (.mk r) b (hbi.trans hb1) (hmk.trans hb2)
    exact hi (by cases this;rfl)
   ·subst e;cases h.parts.apart .row (.mk i) b hrow (hbi.trans hb)
 ·refine k3 (k2 h.acts (fun b hb1 hb2=>?_)) (fun b hb=>fun e=>?_)
  ·cases h.parts.apart .acts (.mk r) b hb1 (hmk.trans hb2)
  ·subst e;cases h.parts.apart .row .acts b hrow hb
 ·have:=h.parts.upd (.mk r) hsz2 hB0 hpart hnew
  rw [size_setCell']
  exact this
 ·refine⟨?_,?_,?_,?_,fun k hk hF=>?_⟩
  ·exact hgrow.os.trans h1.os
  ·exact hgrow.tape.trans h1.tape
  ·exact hgrow.output.trans h1.output
  ·rw [size_setCell'];exact hsz2
  ·rw [heap_setCell_other _ _ _ _ (fun e=>hF ⟨.row,by rw [hrow,e]⟩),hgrow.block k (Nat.lt_of_lt_of_le hk h1.size) (fun e=>hF ⟨.mk r,hmk.trans e.symm⟩),h1.block k hk]
 ·intro s b hb
  by_cases hs:s=.mk r
  ·subst hs
   rcases hnew b hb with h3|h3
   ·exact Or.inl ⟨_,h3⟩
   ·exact Or.inr h3.1
  ·rw [hpart s hs] at hb
   exact Or.inl ⟨s,hb⟩
end
end Go.Proofs.YtgigkiocdiffjaaGreat
