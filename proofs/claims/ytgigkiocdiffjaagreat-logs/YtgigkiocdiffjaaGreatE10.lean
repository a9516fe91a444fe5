import Derived.Test.YtgigkiocdiffjaaGreatE08
import Derived.Test.YtgigkiocdiffjaaGreatE09
import Derived.Deep.RegionHeldLaw
set_option maxRecDepth 100000
set_option maxHeartbeats 16000000
namespace Go.Proofs.YtgigkiocdiffjaaGreat
open Go.RowKit Veil
def cellV (p:RC × Value):List Value:=[.int .u8 p.1.b,.int .i64 p.1.origin,p.2]
def intV (n:Nat):List Value:=[.int .i64 n]
def boolV (b:Bool):List Value:=[.bool b]
def placeV (p:Pl):List Value:=[.int .u8 p.b,.int .i64 p.first,.int .i64 p.last]
theorem below_drew (w:World):Below w.heap.size w w.drew:=(Below.refl _ _).drew
structure RDocR (w:World) (g:Nat) (c:Cfg) (v:CfgV) (rows:List (RC × Value)) (rv av:Value):Prop where
 box:RBox w g c v rv av
 cfg:CfgAt w c v
 row:SeqV 3 cellV w rv rows
 marks:∀ p,p ∈ rows→SeqV 3 markV w p.2 p.1.marks
theorem RDocR.below {w w':World} {g:Nat} {c:Cfg} {v:CfgV} {rows:List (RC × Value)} {rv av:Value} (h:RDocR w g c v rows rv av) (hb:Below w.heap.size w w'):RDocR w' g c v rows rv av:=
 ⟨h.box.below hb h.box.lt,h.cfg.below hb,h.row.below hb,fun p hp=>(h.marks p hp).below hb⟩
structure RDocOk (c:Cfg) (rows:List (RC × Value)):Prop where
 labels:labelsB c=true
 lat:¬ c.noLat
 cfg:CfgOk c
 rules:∀ r,r ∈ c.rules→okL c.labels r.2=true
 cells:∀ p,p ∈ rows→RCOk c p.1∧p.1.marks.length≤140737488355328
 length:rows.length≤1000000
theorem Tryz.infoInt:(Tryz.prog.info? 3).map (fun i=>(i.zero,i.size,i.bytes))=some (some (.int .i64 0),1,8):=by kernel_rfl
theorem Tryz.infoRPlace:(Tryz.prog.info? 220).map (fun i=>(i.zero,i.size,i.bytes))=some (some (.agg #[.int .u8 0,.int .i64 0,.int .i64 0]),3,24):=by kernel_rfl
def byF (row:List RC) (r:Nat):Nat:=(cellAt row r).b
def numF (A:List Nat) (j:Nat):Nat:=A.getD j 0
def hidF (H:List Bool) (j:Nat):Bool:=H.getD j false
def pcF (row:List RC) (A:List Nat) (H:List Bool) (m k:Nat):Piece:=pieceF (fun j=>kindN (byF row (numF A j))) (fun j=>byF row (numF A j)) (hidF H) m k
def emptyB (s:ByteArray):Bool:=s.toList == (⟨#[]⟩:ByteArray).toList
theorem empty_list:(⟨#[]⟩:ByteArray).toList=[]:=by
 unfold ByteArray.toList
 unfold ByteArray.toList.loop
 simp [ByteArray.size]
def stF (c:Cfg) (d:Nat) (row:List RC) (A:List Nat) (H:List Bool) (m k:Nat):Bool:=!emptyB (pcF row A H m k).text && struckB c (pcF row A H m k).text d
def frF (c:Cfg) (d:Nat) (row:List RC) (A:List Nat) (j:Nat):Bool:=(seenF c (cellAt row (numF A j)) d).2
def placesF (c:Cfg) (d:Nat) (row:List RC) (A:List Nat) (H:List Bool) (m:Nat):List Pl:=plTo (numF A) (fun j=>byF row (numF A j)) (fun j=>hidF H j || (moreTo (pcF row A H m) (stF c d row A H m) (frF c d row A) m m).getD j false) m
def placesR (c:Cfg) (row:List RC) (d:Nat):List Pl:=placesF c d row (atTo c row d row.length) (hidTo c row d row.length) (atTo c row d row.length).length
theorem fvec_false (n:Nat):fvec n (fun _=>false)=List.replicate n false:=by
 apply List.ext_getElem?
 intro i
 by_cases hi:i<n
 ·rw [fvec_get _ _ _ hi,List.getElem?_replicate,if_pos hi]
 ·rw [List.getElem?_eq_none (by rw [fvec_length];omega),List.getElem?_eq_none (by simp;omega)]
theorem rpc_of {w wo:World} {g:Nat} {c:Cfg} {v:CfgV} {rows:List (RC × Value)} {ao:Option Addr} {cap:Nat} {av:Value} {row:List RC} {A0:List Nat} {H0:List Bool} {m capa caph:Nat} {aoa aoh:Option Addr} (hdoc:RDocR w g c v rows (.slice ao rows.length cap) av) (hok:RDocOk c rows) (hbel:Below w.heap.size w wo)
  (hva:OwnL 3 1 intV wo w.heap.size (.slice aoa m capa) A0) (hvh:OwnL 4 1 boolV wo w.heap.size (.slice aoh m caph) H0) (hm:A0.length=m) (hh:H0.length=m) (hal:∀ r,r ∈ A0→r<rows.length) (hrr:rows.map (·.1)=row) (k:Nat) (hk:k<m) :
  ∃ rb ab hb,ao=some ⟨rb,0,none⟩∧aoa=some ⟨ab,0,none⟩∧aoh=some ⟨hb,0,none⟩∧Reads wo g rb rows.length cap ab capa hb caph m (numF A0) (byF row) (hidF H0)∧(∀ r,byF row r<256)∧rb<w.heap.size:=by
 obtain⟨ab,ca,e1,_,hab⟩:=hva.form (by omega)
 obtain⟨hb,ch,e2,_,hhb⟩:=hvh.form (by omega)
 simp only [Value.slice.injEq] at e1 e2
 obtain⟨rfl,_,rfl⟩:=e1
 obtain⟨rfl,_,rfl⟩:=e2
 have hn0:rows≠[]:=fun e=>by
  have hmem:A0[0]'(by omega) ∈ A0:=List.getElem_mem _
  have:=hal _ hmem
  rw [e] at this;simp at this
 have hrow:=(hdoc.below hbel).row
 obtain⟨ao',cap',rb,hv,hro,hc⟩:=hdoc.row
 simp only [Value.slice.injEq] at hv
 obtain⟨rfl,_,rfl⟩:=hv
 obtain⟨rfl,hrb⟩:=hro.resolve_left hn0
 have hbo:∀ r,byF row r<256:=fun r=>by
  subst hrr
  unfold byF cellAt
  by_cases hr:r<rows.length
  ·have:(rows.map (·.1)).getD r ⟨0,0,[]⟩=rows[r].1:=by simp [List.getD,hr]
   rw [this];exact (hok.cells _ (List.getElem_mem hr)).1.byte
  ·have:(rows.map (·.1)).getD r ⟨0,0,[]⟩=⟨0,0,[]⟩:=by simp [List.getD];rw [List.getElem?_eq_none (by omega)];rfl
   rw [this];decide
 refine⟨rb,ab,hb,rfl,rfl,rfl,⟨(hdoc.box.below hbel hdoc.box.lt).row,fun j hj=>?_,fun j hj=>?_,fun r hr=>?_,Nat.lt_of_lt_of_le hdoc.box.lt hbel.size,Nat.lt_of_lt_of_le hrb hbel.size,hab,hhb⟩,hbo,hrb⟩
 ·have hj':A0[j]?=some (A0[j]'(by omega)):=List.getElem?_eq_getElem (by omega)
  have hnum:numF A0 j=A0[j]'(by omega):=by simp [numF,List.getD,hj']
  refine⟨?_,by rw [hnum];exact hal _ (List.getElem_mem _)⟩
  have:=hva.cell (show ∀ a,(intV a).length=1 from fun _=>rfl) rfl hj' (j:=0) Nat.zero_lt_one
  rw [hnum]
  simpa [intV] using this
 ·have hj':H0[j]?=some (H0[j]'(by omega)):=List.getElem?_eq_getElem (by omega)
  have hnum:hidF H0 j=H0[j]'(by omega):=by simp [hidF,List.getD,hj']
  have:=hvh.cell (show ∀ a,(boolV a).length=1 from fun _=>rfl) rfl hj' (j:=0) Nat.zero_lt_one
  rw [hnum]
  simpa [boolV] using this
 ·have hr':rows[r]?=some rows[r]:=List.getElem?_eq_getElem hr
  have hby:byF row r=rows[r].1.b:=by subst hrr;unfold byF;rw [cellAt_map _ hr']
  have h1:=hc r _ hr' 0 (by omega)
  rw [hby]
  exact (hbel.cell (p:=⟨rb,r*3,none⟩) hrb).trans h1
theorem rplaces_any (c:Cfg) (v:CfgV) (rows:List (RC × Value)) (rv av:Value) (g d:Nat) (w:World) (hdoc:RDocR w g c v rows rv av) (hok:RDocOk c rows) (hd:d<c.n) :
  Calls Tryz.prog 158 #[.pointer (some ⟨g,0,none⟩),.int .i64 d] w fun e w'=>∃ vl,e=.returned vl∧OwnL 220 3 placeV w' w.heap.size vl (placesR c (rows.map (·.1)) d)∧Below w.heap.size w w':=by
 have HTH:=hide (fun (x:RC) (mv:Value) (w':World) (hb:Below w.heap.size w w') (hm:SeqV 3 markV w' mv x.marks) (hx:RCOk c x) (hl:x.marks.length≤140737488355328)=>rthere_any c v rv av g x mv d w' hok.labels (hdoc.cfg.below hb) (hdoc.box.below hb hdoc.box.lt) hm hx hd hl)
 have HSE:=hide (fun (x:RC) (mv:Value) (w':World) (hb:Below w.heap.size w w') (hm:SeqV 3 markV w' mv x.marks) (hx:RCOk c x) (hl:x.marks.length≤140737488355328)=>rseen_any c v rv av g x mv d w' hok.labels hok.lat (hdoc.cfg.below hb) (hdoc.box.below hb hdoc.box.lt) hm hx hd hl)
 have HLE:=hide (fun (a:Nat) (w':World) (ha:a<c.n) (hb:Below w.heap.size w w')=>rleq_any c v a d w' hok.labels (hdoc.cfg.below hb) ha hd)
 have HDOC:=hide hdoc
 have HOK:=hide hok
 obtain⟨ao,cap,rb,hrv,hrow,hcells⟩:=hdoc.row
 subst hrv
 have HRW:=hide hrow
 have HCL:=hide hcells
 have HC3:=hide (show ∀ (r:Nat) (p:RC × Value),rows[r]?=some p→∀ w',Below w.heap.size w w'→w'.cell? ⟨rb,r*3,none⟩=some (.int .u8 p.1.b)∧w'.cell? ⟨rb,r*3+1,none⟩=some (.int .i64 p.1.origin)∧w'.cell? ⟨rb,r*3+2,none⟩=some p.2 from fun r p hp w' hb'=>by
  have hl:rb<w.heap.size:=by
   rcases hrow with h|h
   ·rw [h] at hp;simp at hp
   ·exact h.2
  exact⟨(hb'.cell (p:=⟨rb,r*3,none⟩) hl).trans (hcells r p hp 0 (by omega)),(hb'.cell (p:=⟨rb,r*3+1,none⟩) hl).trans (hcells r p hp 1 (by omega)),(hb'.cell (p:=⟨rb,r*3+2,none⟩) hl).trans (hcells r p hp 2 (by omega))⟩)
 have hgl:=hdoc.box.lt
 have hlen:=hok.length
 generalize hrr:rows.map (·.1)=row at *
 have HRR:=hide hrr
 clear hdoc hok hrow hcells hrr
 unfold cfgCells at HLE
 go_enter Tryz.func158,Tryz.ntmps158
 go_wp2
 go_loopw [5,6,7] (fun va vh i wr=>∃ k:Nat,k≤rows.length∧i=.int .i64 k∧OwnL 3 1 intV wr w.heap.size va (atTo c row d k)∧OwnL 4 1 boolV wr w.heap.size vh (hidTo c row d k)∧(∀ b,va.ownBlock=some b→vh.ownBlock=some b→False)∧Below w.heap.size w wr) (fun _ _ i _=>rows.length-(intOf i).toNat)
 case atStart=>exact⟨0,Nat.zero_le _,rfl,OwnL.nil _ _ _ _ _,OwnL.nil _ _ _ _ _,(fun b h=>by cases h),Below.refl _ _⟩
 case round=>
  obtain⟨wo,rfl⟩:∃ x,x=wr:=⟨_,rfl⟩
  obtain⟨k,hk,rfl,hva,hvh,hap,hbel⟩:=hrel
  have HVA:=hide hva
  have HVH:=hide hvh
  have HAP:=hide hap
  have HB:=hide (HDOC.out.box.below hbel hgl)
  have r4:=HB.out.row
  clear hva hvh hap
  by_cases hlt:k<rows.length
  ·have hne:rows≠[]:=fun e=>by rw [e] at hlt;simp at hlt
   obtain⟨hao,hrbl⟩:=HRW.out.resolve_left hne
   subst hao
   have hej:rows[k]?=some rows[k]:=List.getElem?_eq_getElem hlt
   have hmem:=List.getElem_mem hlt
   have c0:=HCL.out k _ hej 0 (by omega)
   have c1:=HCL.out k _ hej 1 (by omega)
   have c2:=HCL.out k _ hej 2 (by omega)
   have HCA:=hide (show cellAt row k=rows[k].1 by rw [← HRR.out];exact cellAt_map _ hej)
   obtain⟨hx,hxl⟩:=HOK.out.cells _ hmem
   have HMS:=hide (fun (w':World) (hb:Below w.heap.size w w')=>(HDOC.out.marks _ hmem).below hb)
   have HSL:=hide (seenF_lt HOK.out.lat hx d)
   generalize rows[k]=p at *
   obtain⟨⟨xb,xo,xm⟩,mv⟩:=p
   simp only at hx hxl HMS HCA HSL
   have d0:wo.cell? ⟨rb,k*3,none⟩=some (.int .u8 xb):=(hbel.cell (p:=⟨rb,k*3,none⟩) hrbl).trans c0
   have d1:wo.cell? ⟨rb,k*3+1,none⟩=some (.int .i64 xo):=(hbel.cell (p:=⟨rb,k*3+1,none⟩) hrbl).trans c1
   have d2:wo.cell? ⟨rb,k*3+2,none⟩=some mv:=(hbel.cell (p:=⟨rb,k*3+2,none⟩) hrbl).trans c2
   have hili:(k:Int)<(rows.length:Int):=by omega
   have HT1:=hide (HTH.out ⟨xb,xo,xm⟩ mv wo hbel (HMS.out _ hbel) hx hxl)
   have HS1:=hide (fun (w':World) (hb:Below w.heap.size w w')=>HSE.out ⟨xb,xo,xm⟩ mv w' hb (HMS.out _ hb) hx hxl)
   unfold rcC at HT1 HS1
   simp only at HT1 HS1
   clear c0 c1 c2 hej hmem hne
   go_wp2_with fail
   refine (HT1.out).mono ?_
   rintro e w1 ⟨rfl,hb1⟩
   have hbel1:=hbel.trans (hb1.mono hbel.size)
   have HVA1:=hide (HVA.out.below hb1)
   have HVH1:=hide (HVH.out.below hb1)
   have hrbw:rb<wo.heap.size:=Nat.lt_of_lt_of_le hrbl hbel.size
   have e0:=(hb1.cell (p:=⟨rb,k*3,none⟩) hrbw).trans d0
   have e1:=(hb1.cell (p:=⟨rb,k*3+1,none⟩) hrbw).trans d1
   have e2:=(hb1.cell (p:=⟨rb,k*3+2,none⟩) hrbw).trans d2
   have s4:=(HDOC.out.box.below hbel1 hgl).row
   clear d0 d1 d2 r4 hb1
   cases hth:thereB c ⟨xb,xo,xm⟩ d
   ·have HN:=hide (show thereB c (cellAt row k) d=false by rw [HCA.out];exact hth)
    clear hth
    go_wp2
    go_roundw
    case rel=>exact⟨k+1,by omega,by go_num,by rw [atTo_no HN.out];exact HVA1.out,by rw [hidTo_no HN.out];exact HVH1.out,HAP.out,hbel1⟩
    case measure=>simp [intOf];omega
   ·have HY:=hide (show thereB c (cellAt row k) d=true by rw [HCA.out];exact hth)
    clear hth
    go_wp2_with fail
    refine (HS1.out _ hbel1).mono ?_
    rintro e w2 ⟨rfl,hb2⟩
    have hbel2:=hbel1.trans (hb2.mono hbel1.size)
    have hbA:Below w2.heap.size w2 (w2.alloc (.cells #[.int .i64 k] 3)):=below_box w2 (.cells #[.int .i64 k] 3)
    have HVA2:=hide ((HVA1.out.below hb2).below hbA)
    have HVH2:=hide ((HVH1.out.below hb2).below hbA)
    have HN2:=hide (Go.heap_alloc_new w2 (.cells #[.int .i64 k] 3))
    have hal:=atTo_length c row d k
    have hbelA:Below w.heap.size w (w2.alloc (.cells #[.int .i64 k] 3)):=hbel2.alloc hbel2.size _
    clear hb2 e0 e1 e2 s4
    go_wp2_with (at_builtin;refine wpList_push rfl (.tmp 55) (.tmp 57) 25 rfl (.int .i64 0) 8 Tryz.underlying25 Tryz.infoInt rfl (by decide) rfl HVA2.out w2.heap.size 1 k rfl 3 (0,0) HN2.out rfl (by intro u hu;simp [intV] at hu;subst hu;rfl) (by omega) (by decide) (by simp;have:=hbel2.size;omega) (w2.heap.size+1) (by simp) ?_;intro ga capa w3 hown3 hgrow3 hat3 hlt3;have hbel3:=hbelA.trans (below_of_grown hgrow3 (fun b hb=>(HVA2.out.lt hb).1) hbelA.size);obtain⟨y0,y1,y2,y3⟩:=(HDOC.out.box.below hbel3 hgl).cells)
    refine (HLE.out _ w3 HSL.out hbel3).mono ?_
    rintro e w4 ⟨rfl,hb4⟩
    have hbel4:=hbel3.trans (hb4.mono hbel3.size)
    have HVA4:=hide (hown3.below hb4)
    have HVH3:=hide (HVH2.out.kept hgrow3 (fun b h1 h2=>HAP.out b h2 h1))
    have HVH4:=hide (HVH3.out.below hb4)
    have hgk:∀ b,u6.ownBlock=some b→b≠ga:=by
     intro b hb e
     subst e
     rcases hat3 with h|h
     ·exact HAP.out _ h hb
     ·have:=(HVH2.out.lt hb).2
      simp at this;omega
    have HGK:=hide hgk
    have hsz4:=hb4.size
    generalize hsb:c.le (seenF c ⟨xb,xo,xm⟩ d).1 d=sb at *
    have HSB:=hide (show hidR c row d k=!sb by rw [← hsb];unfold hidR;rw [HCA.out])
    have hbB:Below w4.heap.size w4 (w4.alloc (.cells #[.bool !sb] 4)):=below_box w4 (.cells #[.bool !sb] 4)
    have hbelB:Below w.heap.size w (w4.alloc (.cells #[.bool !sb] 4)):=hbel4.alloc hbel4.size _
    have HVA5:=hide (HVA4.out.below hbB)
    have HVH5:=hide (HVH4.out.below hbB)
    have HN5:=hide (Go.heap_alloc_new w4 (.cells #[.bool !sb] 4))
    have hhl:(hidTo c row d k).length+1≤1000001:=by rw [hidTo_length];omega
    clear hb4 y0 y1 y2 y3 hsb hgk hgrow3
    go_wp2_with (at_builtin;refine wpList_push rfl (.tmp 59) (.tmp 68) 195 rfl (.bool false) 1 Tryz.underlying195 Tryz.infoBool rfl (by decide) rfl HVH5.out w4.heap.size 1 (!sb) rfl 4 (0,0) HN5.out rfl (by intro u hu;simp [boolV] at hu;subst hu;rfl) (by omega) (by decide) hbelB.size (w4.heap.size+1) (by simp) ?_;intro gh caph w6 hown6 hgrow6 hat6 hlt6)
    have hbel6:=hbelB.trans (below_of_grown hgrow6 (fun b hb=>(HVH5.out.lt hb).1) hbelB.size)
    have HVA6:=hide (HVA5.out.kept hgrow6 (fun b h1 h2=>HGK.out b h2 (by cases h1;rfl)))
    have HAP6:Hid (∀ b,(Value.slice (some ⟨ga,0,none⟩) ((atTo c row d k).length+1) capa).ownBlock=some b→(Value.slice (some ⟨gh,0,none⟩) ((hidTo c row d k).length+1) caph).ownBlock=some b→False):=by
     intro b h1 h2
     cases h1
     have hgg:gh=ga:=by cases h2;rfl
     subst hgg
     rcases hat6 with h|h
     ·exact HGK.out _ h rfl
     ·omega
    go_roundw
    case rel=>exact⟨k+1,by omega,by go_num,by rw [atTo_yes HY.out];exact HVA6.out,by rw [hidTo_yes HY.out,HSB.out];exact hown6,HAP6.out,hbel6⟩
    case measure=>simp [intOf];omega
  ·obtain rfl:k=rows.length:=by omega
   have hAl:=atTo_length c row d rows.length
   have HAL:=hide (fun r (h:r ∈ atTo c row d rows.length)=>atTo_lt h)
   have hHl:=hidTo_length c row d rows.length
   generalize hA0:atTo c row d rows.length=A0 at *
   generalize hH0:hidTo c row d rows.length=H0 at *
   have HEQ:=hide (And.intro hA0 hH0)
   clear hA0 hH0 hk
   obtain⟨aoa,capa,hu5⟩:=HVA.out.shape
   obtain⟨aoh,caph,hu6⟩:=HVH.out.shape
   rw [hHl] at hu6
   subst hu5 hu6
   generalize hm:A0.length=m at *
   have HM:=hide hm
   have HHL:=hide hHl
   clear hm hHl
   have hmm:m≤1000000:=by omega
   have hmk:∀ w,(Instr.makeSlice 195 (.int .i64 (m:Int)) (.int .i64 (m:Int))).run Tryz.prog w=.ok (.slice (some ⟨w.heap.size,0,none⟩) m m) (w.alloc (.cells (bools (fvec m fun _=>false)) 4)):=fun w=>run_make_bools m (by omega) w
   have hbm:Below wo.heap.size wo (wo.alloc (.cells (bools (fvec m fun _=>false)) 4)):=below_box wo _
   have HMB:=hide (Go.heap_alloc_new wo (.cells (bools (fvec m fun _=>false)) 4))
   have HPC:=hide (rpc_of HDOC.out HOK.out hbel HVA.out HVH.out HM.out HHL.out HAL.out HRR.out)
   have HST:=hide (fun (t:ByteArray) (w':World) (hb:Below w.heap.size w w') (ht:t.size≤140737488355328)=>rstruck_any c v _ av g t d w' HOK.out.labels HOK.out.cfg (HDOC.out.cfg.below hb) (HDOC.out.box.below hb hgl) HOK.out.rules hd ht)
   have HBEL:=hide hbel
   go_wp2
   go_loopw [12] (fun i wr=>∃ k:Nat,k≤m∧i=.int .i64 k∧wr.heap[wo.heap.size]?=some (.cells (bools (moreTo (pcF row A0 H0 m) (stF c d row A0 H0 m) (frF c d row A0) m k)) 4 (0,0))∧Below wo.heap.size wo wr) (fun i _=>m-(intOf i).toNat)
   case atStart=>exact⟨0,Nat.zero_le _,rfl,by show _=some (Obj.cells (bools (List.replicate m false)) _ _);rw [← fvec_false];exact HMB.out,hbm⟩
   case round=>
    clear hbm HMB hmk
    obtain⟨wa,rfl⟩:∃ x,x=wr:=⟨_,rfl⟩
    obtain⟨k,hk,rfl,hmore,hbl⟩:=hrel
    have HMO:=hide hmore
    have hbelw:=hbel.trans (hbl.mono hbel.size)
    clear hmore
    by_cases hlt:k<m
    ·obtain⟨rb',ab,hb,hao,haoa,haoh,hreads,hby,hrbl⟩:=HPC.out k hlt
     have hrbe:rb'=rb:=by
      rcases HRW.out with h|⟨h,_⟩
      ·have:=(hreads.at_ k hlt).2
       rw [h] at this;simp at this
      ·rw [hao] at h
       simpa using h
     subst hrbe hao haoa haoh
     have HRE:=hide hreads
     have HPI:=hide (rpiece_any g rb' rows.length cap ab capa hb caph m k (numF A0) (byF row) (hidF H0) wa (hreads.below hbl) hlt (by omega) hby)
     obtain⟨hp1,hp2,hp3⟩:=pieceF_le (fun j=>kindN (byF row (numF A0 j))) (fun j=>byF row (numF A0 j)) (hidF H0) m k hlt
     have HPE:=hide (show pieceF (fun j=>kindN (byF row (numF A0 j))) (fun j=>byF row (numF A0 j)) (hidF H0) m k=pcF row A0 H0 m k from rfl)
     generalize pieceF (fun j=>kindN (byF row (numF A0 j))) (fun j=>byF row (numF A0 j)) (hidF H0) m k=pc at *
     obtain⟨lo,hi,text⟩:=pc
     simp only at HPI hp1 hp2 hp3
     have HSK:=hide (show stF c d row A0 H0 m k=(!emptyB text && struckB c text d) by unfold stF;rw [← HPE.out])
     have HLO:=hide (show (pcF row A0 H0 m k).lo=lo∧(pcF row A0 H0 m k).hi=hi by rw [← HPE.out];exact⟨rfl,rfl⟩)
     clear hreads hby
     go_wp2_with fail
     refine (HPI.out).mono ?_
     rintro e w1 ⟨rfl,hb1⟩
     have hbl1:=hbl.trans (hb1.mono hbl.size)
     have hbelw1:=hbelw.trans (hb1.mono hbelw.size)
     have HMO1:=hide (Below.row hb1 HMO.out (lt_of_row HMO.out))
     have HSTT:=hide (HST.out text w1 hbelw1 (by omega))
     clear hb1
     cases hem:emptyB text
     ·have hem':(text.toList == (⟨#[]⟩:ByteArray).toList)=false:=hem
      have hemA:(text.toList == [])=false:=by rw [← empty_list];exact hem
      have hemC:¬ text.toList=[]:=by intro h;rw [h] at hemA;simp at hemA
      have hemB:text.toList.isEmpty=false:=by cases h:text.toList <;> simp_all
      have hemD:decide (text.toList=[])=false:=by simp [hemC]
      rw [hem] at HSK
      clear hem
      go_wp2_with fail
      refine (HSTT.out).mono ?_
      rintro e w2 ⟨rfl,hb2⟩
      have hbl2:=hbl1.trans (hb2.mono hbl1.size)
      have hbelw2:=hbelw1.trans (hb2.mono hbelw1.size)
      have HMO2:=hide (Below.row hb2 HMO1.out (lt_of_row HMO1.out))
      clear hb2
      cases hsk:struckB c text d
      ·have HZ:=hide (show moreTo (pcF row A0 H0 m) (stF c d row A0 H0 m) (frF c d row A0) m (k+1)=moreTo (pcF row A0 H0 m) (stF c d row A0 H0 m) (frF c d row A0) m k by rw [moreTo,HSK.out,hsk];rfl)
       clear hsk
       go_wp2
       go_roundw
       case rel=>exact⟨k+1,by omega,by go_num,by rw [HZ.out];exact HMO2.out,hbl2⟩
       case measure=>simp [intOf];omega
      ·have HZ:=hide (show moreTo (pcF row A0 H0 m) (stF c d row A0 H0 m) (frF c d row A0) m (k+1)=setR (moreTo (pcF row A0 H0 m) (stF c d row A0 H0 m) (frF c d row A0) m k) (fun j=>!frF c d row A0 j) lo (hi-lo) by rw [moreTo,HSK.out,hsk,HLO.out.1,HLO.out.2];rfl)
       have HML:=hide (moreTo_length (pcF row A0 H0 m) (stF c d row A0 H0 m) (frF c d row A0) m k)
       generalize moreTo (pcF row A0 H0 m) (stF c d row A0 H0 m) (frF c d row A0) m k=L at *
       clear hsk
       go_wp2
       go_loopw [16] (fun i wr=>∃ j:Nat,lo≤j∧j≤hi∧i=.int .i64 j∧wr.heap[wo.heap.size]?=some (.cells (bools (setR L (fun j=>!frF c d row A0 j) lo (j-lo))) 4 (0,0))∧Below wo.heap.size wo wr) (fun i _=>hi-(intOf i).toNat)
       case atStart=>exact⟨lo,Nat.le_refl _,hp1,rfl,by rw [Nat.sub_self];exact HMO2.out,hbl2⟩
       case round=>
        clear hbl2 hbelw2 HMO2
        obtain⟨wb,rfl⟩:∃ x,x=wr:=⟨_,rfl⟩
        obtain⟨j,hj1,hj2,rfl,hmr,hb5⟩:=hrel
        have HM5:=hide hmr
        clear hmr
        by_cases hjl:j<hi
        ·have hjm:j<m:=by omega
         have hrd:=HRE.out.below hb5
         obtain⟨na,nan⟩:=hrd.at_ j hjm
         have hg5:=HDOC.out.box.below (hbel.trans (hb5.mono hbel.size)) hgl
         have n4:=hg5.row
         have hej:rows[numF A0 j]?=some (rows[numF A0 j]'nan):=List.getElem?_eq_getElem nan
         have hmem:=List.getElem_mem nan
         obtain⟨hx,hxl⟩:=HOK.out.cells _ hmem
         have hms:=(HDOC.out.marks _ hmem).below (hbel.trans (hb5.mono hbel.size))
         have HCA:=hide (show cellAt row (numF A0 j)=(rows[numF A0 j]'nan).1 by rw [← HRR.out];exact cellAt_map _ hej)
         obtain⟨c0,c1,c2⟩:=HC3.out _ _ hej _ (hbel.trans (hb5.mono hbel.size))
         generalize rows[numF A0 j]'nan=p at *
         obtain⟨⟨xb,xo,xm⟩,mv⟩:=p
         simp only at hx hxl hms HCA c0 c1 c2
         have HS1:=hide (HSE.out ⟨xb,xo,xm⟩ mv wb.drew (hbel.trans (hb5.mono hbel.size)).drew (hms.below (below_drew wb)) hx hxl)
         unfold rcC at HS1
         simp only at HS1
         have HFR:=hide (show frF c d row A0 j=(seenF c ⟨xb,xo,xm⟩ d).2 by unfold frF;rw [HCA.out])
         have hjli:(j:Int)<(hi:Int):=by omega
         have hjmi:(j:Int)<(m:Int):=by omega
         have hnri:((numF A0 j:Nat):Int)<(rows.length:Int):=by omega
         have hgw:=hg5.lt
         have habw:=hrd.ab
         have hrbw:=hrd.rb
         have hlen5:(setR L (fun j=>!frF c d row A0 j) lo (j-lo)).length=m:=by rw [setR_length];exact HML.out
         have HL5:=hide hlen5
         generalize numF A0 j=nj at *
         clear hrd hg5 hej hmem hx hxl hms hlen5
         go_wp2_with fail
         first|(go_region_held (fun w'=>w'.cell? ⟨g,4,none⟩=some (.slice (some ⟨rb',0,none⟩) rows.length cap)∧w'.cell? ⟨ab,j,none⟩=some (.int .i64 nj)∧w'.cell? ⟨rb',nj*3,none⟩=some (.int .u8 xb)∧w'.cell? ⟨rb',nj*3+1,none⟩=some (.int .i64 xo)∧w'.cell? ⟨rb',nj*3+2,none⟩=some mv) (go_keep) (first|(go_at_call 169;refine (HS1.out).mono ?_;rintro e w6 ⟨rfl,hb6⟩;have s0:=(hb6.cell (p:=⟨g,4,none⟩) hgw).trans n4;have s1:=(hb6.cell (p:=⟨ab,j,none⟩) habw).trans na;have s2:=(hb6.cell (p:=⟨rb',nj*3,none⟩) hrbw).trans c0;have s3:=(hb6.cell (p:=⟨rb',nj*3+1,none⟩) hrbw).trans c1;have s5:=(hb6.cell (p:=⟨rb',nj*3+2,none⟩) hrbw).trans c2)))|fail "no"
         have HM6:=hide (Below.row hb6 HM5.out (lt_of_row HM5.out))
         have hb56:=hb5.drew.trans (hb6.mono hb5.drew.size)
         have o6:w6.cell? ⟨wo.heap.size,j,none⟩=some (.bool ((setR L (fun j=>!frF c d row A0 j) lo (j-lo)).getD j false)):=brow_cell HM6.out (by rw [HL5.out];exact hjm)
         have f6:w6.frozen? ⟨wo.heap.size,j,none⟩=false:=frozen_of_row _ _ _ _ _ HM6.out
         have HS7:=hide (show (w6.setCell ⟨wo.heap.size,j,none⟩ (.bool (!(seenF c ⟨xb,xo,xm⟩ d).2))).heap[wo.heap.size]?=some (.cells (bools (setR L (fun j=>!frF c d row A0 j) lo (j+1-lo))) 4 (0,0)) by
          rw [heap_setCell_same _ _ _ _ _ _ HM6.out,bools_set,show j+1-lo=(j-lo)+1 by omega,setR,show lo+(j-lo)=j by omega,HFR.out])
         go_wp2
         go_roundw
         case rel=>exact⟨j+1,by omega,by omega,by go_num,HS7.out,hb56.setCell (by dsimp only;omega) _⟩
         case measure=>simp [intOf];omega
        ·obtain rfl:j=hi:=by omega
         have hjc:decide ((j:Int)<(j:Int))=false:=by simp
         go_wp2
         go_roundw
         case rel=>exact⟨k+1,by omega,by go_num,by rw [HZ.out];exact HM5.out,hb5⟩
         case measure=>simp [intOf];omega
     ·have hem':(text.toList == (⟨#[]⟩:ByteArray).toList)=true:=hem
      have hemA:(text.toList == [])=true:=by rw [← empty_list];exact hem
      have hemC:text.toList=[]:=by simpa using hemA
      have hemB:text.toList.isEmpty=true:=by rw [hemC];rfl
      have HZ:=hide (show moreTo (pcF row A0 H0 m) (stF c d row A0 H0 m) (frF c d row A0) m (k+1)=moreTo (pcF row A0 H0 m) (stF c d row A0 H0 m) (frF c d row A0) m k by rw [moreTo,HSK.out,hem];rfl)
      clear hem
      go_wp2
      go_roundw
      case rel=>exact⟨k+1,by omega,by go_num,by rw [HZ.out];exact HMO1.out,hbl1⟩
      case measure=>simp [intOf];omega
    ·obtain rfl:k=m:=by omega
     have HML:=hide (moreTo_length (pcF row A0 H0 k) (stF c d row A0 H0 k) (frF c d row A0) k k)
     have HMQ:=hide (show placesF c d row A0 H0 k=plTo (numF A0) (fun j=>byF row (numF A0 j)) (fun j=>hidF H0 j || (moreTo (pcF row A0 H0 k) (stF c d row A0 H0 k) (frF c d row A0) k k).getD j false) k from rfl)
     generalize moreTo (pcF row A0 H0 k) (stF c d row A0 H0 k) (frF c d row A0) k k=ML at *
     obtain⟨m,rfl⟩:∃ x,x=k:=⟨_,rfl⟩
     have hmbl:=lt_of_row HMO.out
     clear hk hlt
     go_wp2
     go_loopw [19,20] (fun vl i wr=>∃ k:Nat,k≤m∧i=.int .i64 k∧OwnL 220 3 placeV wr wa.heap.size vl (plTo (numF A0) (fun j=>byF row (numF A0 j)) (fun j=>hidF H0 j || ML.getD j false) k)∧Below wa.heap.size wa wr) (fun _ i _=>m-(intOf i).toNat)
     case atStart=>exact⟨0,Nat.zero_le _,rfl,OwnL.nil _ _ _ _ _,Below.refl _ _⟩
     case round=>
      obtain⟨wb,rfl⟩:∃ x,x=wr:=⟨_,rfl⟩
      obtain⟨k,hk,rfl,hvl,hbb⟩:=hrel
      have HVL:=hide hvl
      clear hvl
      by_cases hlt:k<m
      ·obtain⟨rb',ab,hb,hao,haoa,haoh,hreads,hby,hrbl⟩:=HPC.out k hlt
       subst hao haoa haoh
       have HRA:=hide (hreads.below hbl)
       have HRB:=hide (HRA.out.below hbb)
       obtain⟨xa,xan⟩:=HRA.out.at_ k hlt
       have x4:=HRA.out.row
       have xb':=HRA.out.byte _ xan
       have ya:=(HRB.out.at_ k hlt).1
       have y4:=HRB.out.row
       have yb':=HRB.out.byte _ xan
       have yh:=HRB.out.hid k hlt
       have HMOB:=hide (Below.row hbb HMO.out hmbl)
       have ym:wb.cell? ⟨wo.heap.size,k,none⟩=some (.bool (ML.getD k false)):=brow_cell HMOB.out (by rw [HML.out];exact hlt)
       have hnri:((numF A0 k:Nat):Int)<(rows.length:Int):=by omega
       have hki:(k:Int)<(m:Int):=by omega
       have hpl:=plTo_length (numF A0) (fun j=>byF row (numF A0 j)) (fun j=>hidF H0 j || ML.getD j false) k
       have HPS:=hide (show plTo (numF A0) (fun j=>byF row (numF A0 j)) (fun j=>hidF H0 j || ML.getD j false) (k+1)=_ from by rw [plTo])
       have HPV:=hide (fun (f:Nat) (hf:f<m)=>And.intro (HRB.out.hid f hf) (show wb.cell? ⟨wo.heap.size,f,none⟩=some (.bool (ML.getD f false)) from brow_cell HMOB.out (by rw [HML.out];exact hf)))
       generalize hnj:numF A0 k=nj at *
       generalize hyb:byF row nj=yb at *
       cases hh:(hidF H0 k || ML.getD k false)
       ·obtain⟨h1,h2⟩:hidF H0 k=false∧ML.getD k false=false:=by simpa using hh
        rw [h1] at yh
        rw [h2] at ym
        have HPT:=hide (show plTo (numF A0) (fun j=>byF row (numF A0 j)) (fun j=>hidF H0 j || ML.getD j false) (k+1)=plTo (numF A0) (fun j=>byF row (numF A0 j)) (fun j=>hidF H0 j || ML.getD j false) k++[⟨yb,nj,nj⟩] by rw [HPS.out];simp only [hh];rfl)
        clear HPS hh h1 h2 hnj hyb
        have ho1:=hide (Go.heap_alloc_new wb.drew (.cells #[.int .u8 yb,.int .i64 nj,.int .i64 nj] 220))
        have hbA:Below wb.heap.size wb (wb.drew.alloc (.cells #[.int .u8 yb,.int .i64 nj,.int .i64 nj] 220)):=(below_drew wb).alloc (Nat.le_refl _) _
        have hbbA:Below wa.heap.size wa (wb.drew.alloc (.cells #[.int .u8 yb,.int .i64 nj,.int .i64 nj] 220)):=hbb.trans (hbA.mono hbb.size)
        have HVLA:=hide (HVL.out.below hbA)
        go_wp2_with fail
        go_region_held_law (fun w'=>w'.cell? ⟨ab,k,none⟩=some (.int .i64 nj)∧w'.cell? ⟨g,4,none⟩=some (.slice (some ⟨rb',0,none⟩) rows.length cap)∧w'.cell? ⟨rb',nj*3,none⟩=some (.int .u8 yb)) (go_keep) (first|(refine step_push rfl (.tmp 155) (.tmp 176) 217 rfl (.agg #[.int .u8 0,.int .i64 0,.int .i64 0]) 24 Tryz.underlying217 Tryz.infoRPlace rfl (by decide) rfl HVLA.out wb.heap.size 1 ⟨yb,nj,nj⟩ rfl 220 (0,0) ho1.out rfl (by intro u hu;simp [placeV] at hu;rcases hu with rfl|rfl|rfl <;> rfl) (by omega) (by decide) hbbA.size (wb.heap.size+1) (by simp) ?_;intro gl6 cap6 w6 hown6 hgrow6 hat6 hlt6;have hbb7:=hbbA.trans (below_of_grown hgrow6 (fun b hb=>(HVLA.out.lt hb).1) hbbA.size);have z1:=(hbb7.cell (p:=⟨ab,k,none⟩) HRA.out.ab).trans xa;have z2:=(hbb7.cell (p:=⟨g,4,none⟩) HRA.out.g).trans x4;have z3:=(hbb7.cell (p:=⟨rb',nj*3,none⟩) HRA.out.rb).trans xb'))
        have hbb6:=hbbA.trans (below_of_grown hgrow6 (fun b hb=>(HVLA.out.lt hb).1) hbbA.size)
        go_wp2
        go_roundw
        case rel=>exact⟨k+1,by omega,by go_num,by rw [HPT.out];exact hown6,hbb6⟩
        case measure=>simp [intOf];omega
       ·have hcs:hidF H0 k=true∨(hidF H0 k=false∧ML.getD k false=true):=by
         cases h1:hidF H0 k
         ·rw [h1] at hh;exact Or.inr ⟨rfl,by simpa using hh⟩
         ·exact Or.inl rfl
        rcases hcs with h1|⟨h1,h2⟩
        ·rw [h1] at yh
         clear h1
         by_cases hk0:0<k
         ·obtain⟨f,hf1,hf2⟩:∃ f:Nat,(k:Int)-1=(f:Int)∧k=f+1:=⟨k-1,by omega,by omega⟩
          have HKF:=hide (show k-1=f by omega)
          obtain⟨yf1,yf2⟩:=HPV.out f (by omega)
          have hfi:(f:Int)<(m:Int):=by omega
          have hkp:(0:Int)<(k:Int):=by omega
          have HF2:=hide hf2
          clear hf2
          cases hg:(hidF H0 f || ML.getD f false)
          ·obtain⟨g1,g2⟩:hidF H0 f=false∧ML.getD f false=false:=by simpa using hg
           rw [g1] at yf1
           rw [g2] at yf2
           have HPT:=hide (show plTo (numF A0) (fun j=>byF row (numF A0 j)) (fun j=>hidF H0 j || ML.getD j false) (k+1)=plTo (numF A0) (fun j=>byF row (numF A0 j)) (fun j=>hidF H0 j || ML.getD j false) k++[⟨35,nj,nj⟩] by rw [HPS.out];simp only [hh,HKF.out,hg];simp)
           clear HPS hh g1 g2 hnj hyb hg
           have ho1:=hide (Go.heap_alloc_new wb.drew (.cells #[.int .u8 35,.int .i64 nj,.int .i64 nj] 220))
           have hbA:Below wb.heap.size wb (wb.drew.alloc (.cells #[.int .u8 35,.int .i64 nj,.int .i64 nj] 220)):=(below_drew wb).alloc (Nat.le_refl _) _
           have hbbA:Below wa.heap.size wa (wb.drew.alloc (.cells #[.int .u8 35,.int .i64 nj,.int .i64 nj] 220)):=hbb.trans (hbA.mono hbb.size)
           have HVLA:=hide (HVL.out.below hbA)
           go_wp2_with fail
           go_region_held_law (fun w'=>w'.cell? ⟨ab,k,none⟩=some (.int .i64 nj)) (go_keep) (first|(refine step_push rfl (.tmp 140) (.tmp 150) 217 rfl (.agg #[.int .u8 0,.int .i64 0,.int .i64 0]) 24 Tryz.underlying217 Tryz.infoRPlace rfl (by decide) rfl HVLA.out wb.heap.size 1 ⟨35,nj,nj⟩ rfl 220 (0,0) ho1.out rfl (by intro u hu;simp [placeV] at hu;rcases hu with rfl|rfl|rfl <;> rfl) (by omega) (by decide) hbbA.size (wb.heap.size+1) (by simp) ?_;intro gl6 cap6 w6 hown6 hgrow6 hat6 hlt6;have hbb7:=hbbA.trans (below_of_grown hgrow6 (fun b hb=>(HVLA.out.lt hb).1) hbbA.size);have z1:=(hbb7.cell (p:=⟨ab,k,none⟩) HRA.out.ab).trans xa))
           have hbb6:=hbbA.trans (below_of_grown hgrow6 (fun b hb=>(HVLA.out.lt hb).1) hbbA.size)
           go_wp2
           go_roundw
           case rel=>exact⟨k+1,by omega,by go_num,by rw [HPT.out];exact hown6,hbb6⟩
           case measure=>simp [intOf];omega
          ·have hcf:hidF H0 f=true∨(hidF H0 f=false∧ML.getD f false=true):=by
            cases g1:hidF H0 f
            ·rw [g1] at hg;exact Or.inr ⟨rfl,by simpa using hg⟩
            ·exact Or.inl rfl
           rcases hcf with g1|⟨g1,g2⟩
           ·rw [g1] at yf1
            clear g1
            have HPT:=hide (show plTo (numF A0) (fun j=>byF row (numF A0 j)) (fun j=>hidF H0 j || ML.getD j false) (k+1)=lastTo (plTo (numF A0) (fun j=>byF row (numF A0 j)) (fun j=>hidF H0 j || ML.getD j false) k) nj by rw [HPS.out];simp only [hh,HKF.out,hg];simp [hk0])
            have hpos:=hpl.2 hk0
            have hple:=hpl.1
            generalize plTo (numF A0) (fun j=>byF row (numF A0 j)) (fun j=>hidF H0 j || ML.getD j false) k=PL at *
            obtain⟨gl,cl,hvl,hBl,hgll⟩:=HVL.out.form hpos
            subst hvl
            obtain⟨n1,hn1,hn2⟩:∃ n1:Nat,(PL.length:Int)-1=(n1:Int)∧PL.length=n1+1:=⟨PL.length-1,by omega,by omega⟩
            have hn3:(n1:Int)<(PL.length:Int):=by omega
            have hpn:PL[n1]?=some (PL[n1]'(by omega)):=List.getElem?_eq_getElem (by omega)
            generalize (PL[n1]'(by omega))=q at *
            have l2:wb.cell? ⟨gl,n1*3+2,none⟩=some (.int .i64 q.last):=HVL.out.cell (show ∀ a,(placeV a).length=3 from fun _=>rfl) rfl hpn (j:=2) (by omega)
            obtain⟨_,_,_,hrw,_⟩:=HVL.out.row (g:=gl) rfl
            have fz:wb.frozen? ⟨gl,n1*3+2,none⟩=false:=frozen_of_row _ _ _ _ _ hrw
            have HSET:=hide (HVL.out.set (show ∀ a,(placeV a).length=3 from fun _=>rfl) (g:=gl) rfl hpn (j:=2) (by omega) (u:=.int .i64 nj) (a':=⟨q.b,q.first,nj⟩) rfl)
            have HLS:=hide (lastTo_set hn2 hpn nj)
            have HN2:=hide hn2
            clear hn2 hpn hrw HPS hh hg hnj hyb
            go_wp2
            go_roundw
            case rel=>exact⟨k+1,by omega,by go_num,by rw [HPT.out,HLS.out];exact HSET.out,hbb.setCell (by dsimp only;omega) _⟩
            case measure=>simp [intOf];omega
           ·rw [g1] at yf1
            rw [g2] at yf2
            clear g1 g2
            have HPT:=hide (show plTo (numF A0) (fun j=>byF row (numF A0 j)) (fun j=>hidF H0 j || ML.getD j false) (k+1)=lastTo (plTo (numF A0) (fun j=>byF row (numF A0 j)) (fun j=>hidF H0 j || ML.getD j false) k) nj by rw [HPS.out];simp only [hh,HKF.out,hg];simp [hk0])
            have hpos:=hpl.2 hk0
            have hple:=hpl.1
            generalize plTo (numF A0) (fun j=>byF row (numF A0 j)) (fun j=>hidF H0 j || ML.getD j false) k=PL at *
            obtain⟨gl,cl,hvl,hBl,hgll⟩:=HVL.out.form hpos
            subst hvl
            obtain⟨n1,hn1,hn2⟩:∃ n1:Nat,(PL.length:Int)-1=(n1:Int)∧PL.length=n1+1:=⟨PL.length-1,by omega,by omega⟩
            have hn3:(n1:Int)<(PL.length:Int):=by omega
            have hpn:PL[n1]?=some (PL[n1]'(by omega)):=List.getElem?_eq_getElem (by omega)
            generalize (PL[n1]'(by omega))=q at *
            have l2:wb.cell? ⟨gl,n1*3+2,none⟩=some (.int .i64 q.last):=HVL.out.cell (show ∀ a,(placeV a).length=3 from fun _=>rfl) rfl hpn (j:=2) (by omega)
            obtain⟨_,_,_,hrw,_⟩:=HVL.out.row (g:=gl) rfl
            have fz:wb.frozen? ⟨gl,n1*3+2,none⟩=false:=frozen_of_row _ _ _ _ _ hrw
            have HSET:=hide (HVL.out.set (show ∀ a,(placeV a).length=3 from fun _=>rfl) (g:=gl) rfl hpn (j:=2) (by omega) (u:=.int .i64 nj) (a':=⟨q.b,q.first,nj⟩) rfl)
            have HLS:=hide (lastTo_set hn2 hpn nj)
            have HN2:=hide hn2
            clear hn2 hpn hrw HPS hh hg hnj hyb
            go_wp2
            go_roundw
            case rel=>exact⟨k+1,by omega,by go_num,by rw [HPT.out,HLS.out];exact HSET.out,hbb.setCell (by dsimp only;omega) _⟩
            case measure=>simp [intOf];omega
         ·have hkp:decide ((0:Int)<(k:Int))=false:=by simp;omega
          have hkd:decide (0<k)=false:=by simpa using hk0
          have HPT:=hide (show plTo (numF A0) (fun j=>byF row (numF A0 j)) (fun j=>hidF H0 j || ML.getD j false) (k+1)=plTo (numF A0) (fun j=>byF row (numF A0 j)) (fun j=>hidF H0 j || ML.getD j false) k++[⟨35,nj,nj⟩] by rw [HPS.out];simp only [hh,hkd];rfl)
          clear HPS hh hnj hyb hkd
          have ho1:=hide (Go.heap_alloc_new wb.drew (.cells #[.int .u8 35,.int .i64 nj,.int .i64 nj] 220))
          have hbA:Below wb.heap.size wb (wb.drew.alloc (.cells #[.int .u8 35,.int .i64 nj,.int .i64 nj] 220)):=(below_drew wb).alloc (Nat.le_refl _) _
          have hbbA:Below wa.heap.size wa (wb.drew.alloc (.cells #[.int .u8 35,.int .i64 nj,.int .i64 nj] 220)):=hbb.trans (hbA.mono hbb.size)
          have HVLA:=hide (HVL.out.below hbA)
          go_wp2_with fail
          go_region_held_law (fun w'=>w'.cell? ⟨ab,k,none⟩=some (.int .i64 nj)) (go_keep) (first|(refine step_push rfl (.tmp 140) (.tmp 150) 217 rfl (.agg #[.int .u8 0,.int .i64 0,.int .i64 0]) 24 Tryz.underlying217 Tryz.infoRPlace rfl (by decide) rfl HVLA.out wb.heap.size 1 ⟨35,nj,nj⟩ rfl 220 (0,0) ho1.out rfl (by intro u hu;simp [placeV] at hu;rcases hu with rfl|rfl|rfl <;> rfl) (by omega) (by decide) hbbA.size (wb.heap.size+1) (by simp) ?_;intro gl6 cap6 w6 hown6 hgrow6 hat6 hlt6;have hbb7:=hbbA.trans (below_of_grown hgrow6 (fun b hb=>(HVLA.out.lt hb).1) hbbA.size);have z1:=(hbb7.cell (p:=⟨ab,k,none⟩) HRA.out.ab).trans xa))
          have hbb6:=hbbA.trans (below_of_grown hgrow6 (fun b hb=>(HVLA.out.lt hb).1) hbbA.size)
          go_wp2
          go_roundw
          case rel=>exact⟨k+1,by omega,by go_num,by rw [HPT.out];exact hown6,hbb6⟩
          case measure=>simp [intOf];omega
        ·rw [h1] at yh
         rw [h2] at ym
         clear h1 h2
         by_cases hk0:0<k
         ·obtain⟨f,hf1,hf2⟩:∃ f:Nat,(k:Int)-1=(f:Int)∧k=f+1:=⟨k-1,by omega,by omega⟩
          have HKF:=hide (show k-1=f by omega)
          obtain⟨yf1,yf2⟩:=HPV.out f (by omega)
          have hfi:(f:Int)<(m:Int):=by omega
          have hkp:(0:Int)<(k:Int):=by omega
          have HF2:=hide hf2
          clear hf2
          cases hg:(hidF H0 f || ML.getD f false)
          ·obtain⟨g1,g2⟩:hidF H0 f=false∧ML.getD f false=false:=by simpa using hg
           rw [g1] at yf1
           rw [g2] at yf2
           have HPT:=hide (show plTo (numF A0) (fun j=>byF row (numF A0 j)) (fun j=>hidF H0 j || ML.getD j false) (k+1)=plTo (numF A0) (fun j=>byF row (numF A0 j)) (fun j=>hidF H0 j || ML.getD j false) k++[⟨35,nj,nj⟩] by rw [HPS.out];simp only [hh,HKF.out,hg];simp)
           clear HPS hh g1 g2 hnj hyb hg
           have ho1:=hide (Go.heap_alloc_new wb.drew (.cells #[.int .u8 35,.int .i64 nj,.int .i64 nj] 220))
           have hbA:Below wb.heap.size wb (wb.drew.alloc (.cells #[.int .u8 35,.int .i64 nj,.int .i64 nj] 220)):=(below_drew wb).alloc (Nat.le_refl _) _
           have hbbA:Below wa.heap.size wa (wb.drew.alloc (.cells #[.int .u8 35,.int .i64 nj,.int .i64 nj] 220)):=hbb.trans (hbA.mono hbb.size)
           have HVLA:=hide (HVL.out.below hbA)
           go_wp2_with fail
           go_region_held_law (fun w'=>w'.cell? ⟨ab,k,none⟩=some (.int .i64 nj)) (go_keep) (first|(refine step_push rfl (.tmp 140) (.tmp 150) 217 rfl (.agg #[.int .u8 0,.int .i64 0,.int .i64 0]) 24 Tryz.underlying217 Tryz.infoRPlace rfl (by decide) rfl HVLA.out wb.heap.size 1 ⟨35,nj,nj⟩ rfl 220 (0,0) ho1.out rfl (by intro u hu;simp [placeV] at hu;rcases hu with rfl|rfl|rfl <;> rfl) (by omega) (by decide) hbbA.size (wb.heap.size+1) (by simp) ?_;intro gl6 cap6 w6 hown6 hgrow6 hat6 hlt6;have hbb7:=hbbA.trans (below_of_grown hgrow6 (fun b hb=>(HVLA.out.lt hb).1) hbbA.size);have z1:=(hbb7.cell (p:=⟨ab,k,none⟩) HRA.out.ab).trans xa))
           have hbb6:=hbbA.trans (below_of_grown hgrow6 (fun b hb=>(HVLA.out.lt hb).1) hbbA.size)
           go_wp2
           go_roundw
           case rel=>exact⟨k+1,by omega,by go_num,by rw [HPT.out];exact hown6,hbb6⟩
           case measure=>simp [intOf];omega
          ·have hcf:hidF H0 f=true∨(hidF H0 f=false∧ML.getD f false=true):=by
            cases g1:hidF H0 f
            ·rw [g1] at hg;exact Or.inr ⟨rfl,by simpa using hg⟩
            ·exact Or.inl rfl
           rcases hcf with g1|⟨g1,g2⟩
           ·rw [g1] at yf1
            clear g1
            have HPT:=hide (show plTo (numF A0) (fun j=>byF row (numF A0 j)) (fun j=>hidF H0 j || ML.getD j false) (k+1)=lastTo (plTo (numF A0) (fun j=>byF row (numF A0 j)) (fun j=>hidF H0 j || ML.getD j false) k) nj by rw [HPS.out];simp only [hh,HKF.out,hg];simp [hk0])
            have hpos:=hpl.2 hk0
            have hple:=hpl.1
            generalize plTo (numF A0) (fun j=>byF row (numF A0 j)) (fun j=>hidF H0 j || ML.getD j false) k=PL at *
            obtain⟨gl,cl,hvl,hBl,hgll⟩:=HVL.out.form hpos
            subst hvl
            obtain⟨n1,hn1,hn2⟩:∃ n1:Nat,(PL.length:Int)-1=(n1:Int)∧PL.length=n1+1:=⟨PL.length-1,by omega,by omega⟩
            have hn3:(n1:Int)<(PL.length:Int):=by omega
            have hpn:PL[n1]?=some (PL[n1]'(by omega)):=List.getElem?_eq_getElem (by omega)
            generalize (PL[n1]'(by omega))=q at *
            have l2:wb.cell? ⟨gl,n1*3+2,none⟩=some (.int .i64 q.last):=HVL.out.cell (show ∀ a,(placeV a).length=3 from fun _=>rfl) rfl hpn (j:=2) (by omega)
            obtain⟨_,_,_,hrw,_⟩:=HVL.out.row (g:=gl) rfl
            have fz:wb.frozen? ⟨gl,n1*3+2,none⟩=false:=frozen_of_row _ _ _ _ _ hrw
            have HSET:=hide (HVL.out.set (show ∀ a,(placeV a).length=3 from fun _=>rfl) (g:=gl) rfl hpn (j:=2) (by omega) (u:=.int .i64 nj) (a':=⟨q.b,q.first,nj⟩) rfl)
            have HLS:=hide (lastTo_set hn2 hpn nj)
            have HN2:=hide hn2
            clear hn2 hpn hrw HPS hh hg hnj hyb
            go_wp2
            go_roundw
            case rel=>exact⟨k+1,by omega,by go_num,by rw [HPT.out,HLS.out];exact HSET.out,hbb.setCell (by dsimp only;omega) _⟩
            case measure=>simp [intOf];omega
           ·rw [g1] at yf1
            rw [g2] at yf2
            clear g1 g2
            have HPT:=hide (show plTo (numF A0) (fun j=>byF row (numF A0 j)) (fun j=>hidF H0 j || ML.getD j false) (k+1)=lastTo (plTo (numF A0) (fun j=>byF row (numF A0 j)) (fun j=>hidF H0 j || ML.getD j false) k) nj by rw [HPS.out];simp only [hh,HKF.out,hg];simp [hk0])
            have hpos:=hpl.2 hk0
            have hple:=hpl.1
            generalize plTo (numF A0) (fun j=>byF row (numF A0 j)) (fun j=>hidF H0 j || ML.getD j false) k=PL at *
            obtain⟨gl,cl,hvl,hBl,hgll⟩:=HVL.out.form hpos
            subst hvl
            obtain⟨n1,hn1,hn2⟩:∃ n1:Nat,(PL.length:Int)-1=(n1:Int)∧PL.length=n1+1:=⟨PL.length-1,by omega,by omega⟩
            have hn3:(n1:Int)<(PL.length:Int):=by omega
            have hpn:PL[n1]?=some (PL[n1]'(by omega)):=List.getElem?_eq_getElem (by omega)
            generalize (PL[n1]'(by omega))=q at *
            have l2:wb.cell? ⟨gl,n1*3+2,none⟩=some (.int .i64 q.last):=HVL.out.cell (show ∀ a,(placeV a).length=3 from fun _=>rfl) rfl hpn (j:=2) (by omega)
            obtain⟨_,_,_,hrw,_⟩:=HVL.out.row (g:=gl) rfl
            have fz:wb.frozen? ⟨gl,n1*3+2,none⟩=false:=frozen_of_row _ _ _ _ _ hrw
            have HSET:=hide (HVL.out.set (show ∀ a,(placeV a).length=3 from fun _=>rfl) (g:=gl) rfl hpn (j:=2) (by omega) (u:=.int .i64 nj) (a':=⟨q.b,q.first,nj⟩) rfl)
            have HLS:=hide (lastTo_set hn2 hpn nj)
            have HN2:=hide hn2
            clear hn2 hpn hrw HPS hh hg hnj hyb
            go_wp2
            go_roundw
            case rel=>exact⟨k+1,by omega,by go_num,by rw [HPT.out,HLS.out];exact HSET.out,hbb.setCell (by dsimp only;omega) _⟩
            case measure=>simp [intOf];omega
         ·have hkp:decide ((0:Int)<(k:Int))=false:=by simp;omega
          have hkd:decide (0<k)=false:=by simpa using hk0
          have HPT:=hide (show plTo (numF A0) (fun j=>byF row (numF A0 j)) (fun j=>hidF H0 j || ML.getD j false) (k+1)=plTo (numF A0) (fun j=>byF row (numF A0 j)) (fun j=>hidF H0 j || ML.getD j false) k++[⟨35,nj,nj⟩] by rw [HPS.out];simp only [hh,hkd];rfl)
          clear HPS hh hnj hyb hkd
          have ho1:=hide (Go.heap_alloc_new wb.drew (.cells #[.int .u8 35,.int .i64 nj,.int .i64 nj] 220))
          have hbA:Below wb.heap.size wb (wb.drew.alloc (.cells #[.int .u8 35,.int .i64 nj,.int .i64 nj] 220)):=(below_drew wb).alloc (Nat.le_refl _) _
          have hbbA:Below wa.heap.size wa (wb.drew.alloc (.cells #[.int .u8 35,.int .i64 nj,.int .i64 nj] 220)):=hbb.trans (hbA.mono hbb.size)
          have HVLA:=hide (HVL.out.below hbA)
          go_wp2_with fail
          go_region_held_law (fun w'=>w'.cell? ⟨ab,k,none⟩=some (.int .i64 nj)) (go_keep) (first|(refine step_push rfl (.tmp 140) (.tmp 150) 217 rfl (.agg #[.int .u8 0,.int .i64 0,.int .i64 0]) 24 Tryz.underlying217 Tryz.infoRPlace rfl (by decide) rfl HVLA.out wb.heap.size 1 ⟨35,nj,nj⟩ rfl 220 (0,0) ho1.out rfl (by intro u hu;simp [placeV] at hu;rcases hu with rfl|rfl|rfl <;> rfl) (by omega) (by decide) hbbA.size (wb.heap.size+1) (by simp) ?_;intro gl6 cap6 w6 hown6 hgrow6 hat6 hlt6;have hbb7:=hbbA.trans (below_of_grown hgrow6 (fun b hb=>(HVLA.out.lt hb).1) hbbA.size);have z1:=(hbb7.cell (p:=⟨ab,k,none⟩) HRA.out.ab).trans xa))
          have hbb6:=hbbA.trans (below_of_grown hgrow6 (fun b hb=>(HVLA.out.lt hb).1) hbbA.size)
          go_wp2
          go_roundw
          case rel=>exact⟨k+1,by omega,by go_num,by rw [HPT.out];exact hown6,hbb6⟩
          case measure=>simp [intOf];omega
      ·obtain rfl:k=m:=by omega
       have hkc:decide ((k:Int)<(k:Int))=false:=by simp
       have HFIN:=hide (show plTo (numF A0) (fun j=>byF row (numF A0 j)) (fun j=>hidF H0 j || ML.getD j false) k=placesR c row d by
        rw [← HMQ.out];unfold placesR
        have hrl:row.length=rows.length:=by rw [← HRR.out];simp
        rw [hrl,HEQ.out.1,HEQ.out.2,HM.out])
       obtain⟨aol,cl,hvl⟩:=HVL.out.shape
       rw [HFIN.out] at HVL
       subst hvl
       go_wp2
       go_ret
       exact⟨_,rfl,HVL.out.mono (by have:=hbelw.size;omega),hbelw.trans (hbb.mono hbelw.size)⟩
end Go.Proofs.YtgigkiocdiffjaaGreat
