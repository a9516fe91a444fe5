import Derived.Test.YtgigkiocdiffjaaGreatE15
set_option maxRecDepth 100000
set_option maxHeartbeats 16000000
namespace Go.Proofs.YtgigkiocdiffjaaGreat
open Go.RowKit Veil
theorem rinsert_no1 (c:Cfg) (v:CfgV) (rows:List (RC × Value)) (rv av:Value) (g:Nat) (level at_:Int) (text:ByteArray) (w:World) (hdoc:RDocR w g c v rows rv av) (hlv:okL c.labels level=false) :
  Calls Tryz.prog 132 #[.pointer (some ⟨g,0,none⟩),.int .i64 level,.int .i64 at_,.string text] w fun e w'=>e=.returned (.int .i64 6)∧Below w.heap.size w w':=by
 have HLB:=hide (fun w'=>rlabel_any c v level w')
 obtain⟨q0,q1,q2,q3⟩:=hdoc.box.cells
 rw [hlv] at HLB
 unfold cfgCells at HLB
 clear hlv hdoc
 go_enter Tryz.func132,Tryz.ntmps132
 go_wp2_with fail
 refine (HLB.out _).mono ?_
 rintro e w1 ⟨rfl,hb1⟩
 go_wp2
 go_ret
 exact⟨rfl,hb1⟩
theorem rinsert_no2 (c:Cfg) (v:CfgV) (rows:List (RC × Value)) (rv av:Value) (g level:Nat) (at_:Int) (text:ByteArray) (w:World) (hdoc:RDocR w g c v rows rv av) (hok:RDocOk c rows) (hlv:okL c.labels level=true) (hno:at_<0∨((placesR c (rows.map (·.1)) level).length:Int)<at_) :
  Calls Tryz.prog 132 #[.pointer (some ⟨g,0,none⟩),.int .i64 level,.int .i64 at_,.string text] w fun e w'=>e=.returned (.int .i64 7)∧Below w.heap.size w w':=by
 obtain⟨_,_,_,_,hn,_,_⟩:=labels_of hok.labels
 obtain⟨lv,hlv1,hlv2⟩:=okL_nat' hn hlv
 obtain rfl:level=lv:=by omega
 have HLB:=hide (fun w'=>rlabel_any c v level w')
 have HPL:=hide (fun (w':World) (hb:Below w.heap.size w w')=>rplaces_any c v rows rv av g level w' (hdoc.below hb) hok hlv2)
 obtain⟨q0,q1,q2,q3⟩:=hdoc.box.cells
 rw [hlv] at HLB
 unfold cfgCells at HLB
 generalize placesR c (rows.map (·.1)) level=P at *
 clear hlv hdoc hok hn hlv1
 have hcs:at_<0∨(0≤at_∧(P.length:Int)<at_):=by omega
 clear hno
 rcases hcs with h1|⟨h1,h2⟩
 ·go_enter Tryz.func132,Tryz.ntmps132
  go_wp2_with fail
  refine (HLB.out _).mono ?_
  rintro e w1 ⟨rfl,hb1⟩
  go_wp2_with fail
  refine (HPL.out _ hb1).mono ?_
  rintro e w2 ⟨vl,rfl,hvl,hb2⟩
  have hb:=hb1.trans (hb2.mono hb1.size)
  clear hb1 hb2 q0 q1 q2 q3 hvl
  go_wp2
  go_ret
  exact⟨rfl,hb⟩
 ·go_enter Tryz.func132,Tryz.ntmps132
  go_wp2_with fail
  refine (HLB.out _).mono ?_
  rintro e w1 ⟨rfl,hb1⟩
  go_wp2_with fail
  refine (HPL.out _ hb1).mono ?_
  rintro e w2 ⟨vl,rfl,hvl,hb2⟩
  have hb:=hb1.trans (hb2.mono hb1.size)
  obtain⟨ao,cap,hvv⟩:=hvl.shape
  subst hvv
  clear hb1 hb2 q0 q1 q2 q3 hvl
  go_wp2
  go_ret
  exact⟨rfl,hb⟩
def behindR (P:List Pl) (a:Nat):Nat:=match a with
 | 0=>0
 | k+1=>(plAt P k).last+1
structure InsIs (w0 w w':World) (g:Nat) (c:Cfg) (v:CfgV) (rows:List (RC × Value)) (acts:List RA) (rv av:Value) (level a:Nat) (text:ByteArray) (code:Int):Prop where
 bad:textOkB text=false→code=8∧Below w.heap.size w w'
 full:textOkB text=true→200<ownN rows level rows.length+text.size→code=9∧Below w.heap.size w w'
 ok:textOkB text=true→ownN rows level rows.length+text.size≤200→code=0∧∃ rv' av',RDocO w0 w' g c v (putIn rows (newTo text level text.size) (behindR (placesR c (rows.map (·.1)) level) a)) (acts++[⟨1,level,level,0⟩]) rv' av'∧Only (fun k=>∃ s,blkOf' g rv av rows s=some k) w w'∧(∀ s b,blkOf' g rv' av' (putIn rows (newTo text level text.size) (behindR (placesR c (rows.map (·.1)) level) a)) s=some b→(∃ s,blkOf' g rv av rows s=some b)∨w.heap.size≤b)
theorem rinsert_any (w0 w:World) (g:Nat) (c:Cfg) (v:CfgV) (rows:List (RC × Value)) (acts:List RA) (rv av:Value) (level a:Nat) (text:ByteArray) (hdoc:RDocO w0 w g c v rows acts rv av) (hok:RDocOk c rows) (hlv:okL c.labels level=true) (hal:a≤(placesR c (rows.map (·.1)) level).length) (htx:text.size≤140737488355328) (hacl:acts.length≤4000000000000) :
  Calls Tryz.prog 132 #[.pointer (some ⟨g,0,none⟩),.int .i64 level,.int .i64 a,.string text] w
   fun e w'=>∃ code,e=.returned (.int .i64 code)∧InsIs w0 w w' g c v rows acts rv av level a text code:=by
 obtain⟨_,_,_,_,hn,_,_⟩:=labels_of hok.labels
 obtain⟨lv,hlv1,hlv2⟩:=okL_nat' hn hlv
 obtain rfl:level=lv:=by omega
 obtain⟨hp1,hp2⟩:=places_of hok level
 have HLB:=hide (fun w'=>rlabel_any c v level w')
 have HPL:=hide (fun (w':World) (hb:Below w.heap.size w w')=>rplaces_any c v rows rv av g level w' (hdoc.read.below hb) hok hlv2)
 have HLF:=hide (fun (w':World) (hb:Below w.heap.size w w')=>rleft_ok c v rows rv av g level w' (hdoc.read.below hb) hok hlv)
 have HDOC:=hide hdoc
 have hlen:=hok.length
 obtain⟨q0,q1,q2,q3⟩:=hdoc.box.cells
 rw [hlv] at HLB
 unfold cfgCells at HLB
 generalize hP:placesR c (rows.map (·.1)) level=P at *
 have HPO:=hide hp2
 have hown:=ownN_le rows level rows.length
 have HPE:=hide hP
 clear hlv hdoc hok hn hlv1 hp2 hP
 have hd1:decide ((a:Int)<0)=false:=by simp
 have hd3:decide (P.length<a)=false:=by simp;omega
 have hd5:¬ P.length<a:=by omega
 go_enter Tryz.func132,Tryz.ntmps132
 go_wp2_with fail
 refine (HLB.out _).mono ?_
 rintro e w1 ⟨rfl,hb1⟩
 go_wp2_with fail
 refine (HPL.out _ hb1).mono ?_
 rintro e w2 ⟨vl,rfl,hvl,hb2⟩
 have hbw:=hb1.trans (hb2.mono hb1.size)
 have HVL:=hide hvl
 obtain⟨ao,cap,hvv⟩:=hvl.shape
 subst hvv
 clear hb1 hb2 q0 q1 q2 q3 hvl
 go_wp2
 go_loop [10] (fun i=>∃ k:Nat,k≤text.size∧i=.int .i64 k∧okTo text k=true) (fun i=>text.size-(intOf i).toNat)
 case atStart=>exact⟨0,Nat.zero_le _,rfl,rfl⟩
 case round=>
  obtain⟨k,hk,rfl,hv⟩:=hrel
  have HV:=hide hv
  clear hv
  by_cases hlt:k<text.size
  ·have HOK1:=hide (okTo_succ text k hlt)
   have HBAD:=hide (okTo_bad text k hlt)
   by_cases c1:text[k].toNat<32
   ·have HB1:=hide (HBAD.out (by simp [okByte];omega))
    have c1':((text[k].toNat:Nat):Int)<32:=by omega
    clear c1
    go_wp2
    go_ret
    exact⟨8,rfl,fun _=>⟨rfl,hbw⟩,fun h=>absurd (h.symm.trans HB1.out) (by decide),fun h=>absurd (h.symm.trans HB1.out) (by decide)⟩
   by_cases c2:126<text[k].toNat
   ·have HB1:=hide (HBAD.out (by simp [okByte];omega))
    have c2':(126:Int)<((text[k].toNat:Nat):Int):=by omega
    have c1':¬ ((text[k].toNat:Nat):Int)<32:=by omega
    clear c1 c2
    go_wp2
    go_ret
    exact⟨8,rfl,fun _=>⟨rfl,hbw⟩,fun h=>absurd (h.symm.trans HB1.out) (by decide),fun h=>absurd (h.symm.trans HB1.out) (by decide)⟩
   by_cases c3:text[k].toNat=35
   ·have HB1:=hide (HBAD.out (by simp [okByte,c3]))
    have c3':((text[k].toNat:Nat):Int)=35:=by omega
    clear c1 c2 c3
    go_wp2
    go_ret
    exact⟨8,rfl,fun _=>⟨rfl,hbw⟩,fun h=>absurd (h.symm.trans HB1.out) (by decide),fun h=>absurd (h.symm.trans HB1.out) (by decide)⟩
   ·have HG:=hide (show okByte text[k].toNat=true by simp [okByte];omega)
    have c1':¬ ((text[k].toNat:Nat):Int)<32:=by omega
    have c2':¬ (126:Int)<((text[k].toNat:Nat):Int):=by omega
    have c3':(((text[k].toNat:Nat):Int) == 35)=false:=by simp;omega
    clear c1 c2 c3
    go_wp2
    go_round
    case rel=>exact⟨k+1,by omega,by go_num,by rw [HOK1.out,HV.out,HG.out];rfl⟩
    case measure=>simp [intOf];omega
  ·obtain rfl:k=text.size:=by omega
   have hkc:decide ((text.size:Int)<(text.size:Int))=false:=by simp
   by_cases s1:text.size<1
   ·have HB1:=hide (show textOkB text=false by simp [textOkB];omega)
    have s1':(text.size:Int)<1:=by omega
    go_wp2
    go_ret
    exact⟨8,rfl,fun _=>⟨rfl,hbw⟩,fun h=>absurd (h.symm.trans HB1.out) (by decide),fun h=>absurd (h.symm.trans HB1.out) (by decide)⟩
   by_cases s2:40<text.size
   ·have HB1:=hide (show textOkB text=false by simp [textOkB];omega)
    have s1':¬ (text.size:Int)<1:=by omega
    have s2':(40:Int)<(text.size:Int):=by omega
    go_wp2
    go_ret
    exact⟨8,rfl,fun _=>⟨rfl,hbw⟩,fun h=>absurd (h.symm.trans HB1.out) (by decide),fun h=>absurd (h.symm.trans HB1.out) (by decide)⟩
   have HTO:=hide (show textOkB text=true by simp [textOkB,HV.out];omega)
   have s1':¬ (text.size:Int)<1:=by omega
   have s2':¬ (40:Int)<(text.size:Int):=by omega
   go_wp2_with fail
   refine (HLF.out _ hbw).mono ?_
   rintro e w3 ⟨rfl,hb3⟩
   have hbw3:=hbw.trans (hb3.mono hbw.size)
   have HVL3:=hide (HVL.out.below hb3)
   clear hb3
   by_cases hq:200<ownN rows level rows.length+text.size
   ·have hq':(200:Int)-(ownN rows level rows.length:Int)<(text.size:Int):=by omega
    go_wp2
    go_ret
    exact⟨9,rfl,fun h=>absurd (h.symm.trans HTO.out) (by decide),fun _ _=>⟨rfl,hbw3⟩,fun _ h=>absurd h (by omega)⟩
   ·have hq':¬ (200:Int)-(ownN rows level rows.length:Int)<(text.size:Int):=by omega
    have HQ:=hide (show ownN rows level rows.length+text.size≤200 by omega)
    have HD3:=hide (HDOC.out.drop hbw3)
    by_cases ha:0<a
    ·obtain⟨f,hf1,hf2⟩:∃ f:Nat,(a:Int)-1=(f:Int)∧a=f+1:=⟨a-1,by omega,by omega⟩
     have hfP:f<P.length:=by omega
     obtain⟨gp,cp,hvv,_,hgp⟩:=HVL3.out.form (by omega)
     simp only [Value.slice.injEq] at hvv
     obtain⟨rfl,_,rfl⟩:=hvv
     have hej:P[f]?=some P[f]:=List.getElem?_eq_getElem hfP
     have p2:=HVL3.out.cell (show ∀ a,(placeV a).length=3 from fun _=>rfl) rfl hej (j:=2) (by omega)
     have hpo:=HPO.out _ (List.getElem_mem hfP)
     have HBE:=hide (show behindR P a=P[f].last+1 by rw [hf2];simp [behindR,plAt,List.getD,hej])
     generalize P[f]=q at *
     obtain⟨qb,qf,ql⟩:=q
     have hql:=hpo.lt
     have p2':w3.cell? ⟨gp,f*3+2,none⟩=some (.int .i64 ql):=p2
     simp only at hql HBE
     have ha0:(0:Int)<(a:Int):=by omega
     have hfi:(f:Int)<(P.length:Int):=by omega
     have HF2:=hide hf2
     clear hej p2 hpo hf2
     obtain⟨rao,rcap,hrv⟩:=HD3.out.row.shape
     subst hrv
     obtain⟨hsn,hss⟩:=HD3.out.row.src
     have hcapn:rows.length≤rcap:=by
      cases hra:rao with
      | none=>have:=(hsn hra).1;omega
      | some x=>obtain⟨_,_,_,h,_⟩:=hss x hra;exact h
     have HSN:=hide hsn
     have HSS:=hide hss
     have r4:=HD3.out.box.row
     have hgl:=HD3.out.box.lt
     have hsl1:∀ w',(Instr.slice 150 (.slice rao rows.length rcap) none (some (.int .i64 ((ql:Int)+1))) none).run Tryz.prog w'=.ok (.slice rao (ql+1) rcap) w':=fun w'=>by
      have:=cut_head (ao:=rao) (n:=rows.length) (cap:=rcap) (k:=ql+1) (fun x hx=>by obtain⟨rb,h,_⟩:=HSS.out x hx;exact⟨rb,h⟩) (by omega) w'
      simpa using this
     have hsl2:∀ w',(Instr.slice 150 (.slice rao rows.length rcap) (some (.int .i64 ((ql:Int)+1))) none none).run Tryz.prog w'=.ok (.slice (if rcap=ql+1 then rao else rao.map (·.add ((ql+1)*3))) (rows.length-(ql+1)) (rcap-(ql+1))) w':=fun w'=>by
      have:=cut_tail (ao:=rao) (n:=rows.length) (cap:=rcap) (k:=ql+1) (by omega) w'
      simpa using this
     have HONE:=hide (show ∀ p,p ∈ rows→∀ u,u ∈ cellV p→u.oneCell'=true from fun p hp u hu=>by
      obtain⟨i,hi,he⟩:=List.getElem_of_mem hp
      obtain⟨x,y,hxy⟩:=(HD3.out.marks i p (by rw [← he];exact List.getElem?_eq_getElem hi)).shape
      simp only [cellV,List.mem_cons,List.not_mem_nil,or_false] at hu
      rcases hu with rfl|rfl|rfl
      ·rfl
      ·rfl
      ·rw [hxy];rfl)
     have HC1:=hide (show ∀ x,rao=some x→∀ j u,((rows.take (ql+1)).flatMap cellV)[j]?=some u→w3.cell? (x.add j)=some u from fun x hx j u hu=>by
      obtain⟨rb,rfl,_,_,hc⟩:=HSS.out x hx
      have:=hc j u (flat_take hu)
      have hadd:(⟨rb,0,none⟩:Addr).add j=⟨rb,j,none⟩:=by unfold Addr.add;split <;> simp_all
      rw [hadd];exact this)
     generalize hso:(if rcap=ql+1 then rao else rao.map (·.add ((ql+1)*3)))=so2 at *
     have HC2:=hide (show ∀ (w':World),Below w3.heap.size w3 w'→∀ x,so2=some x→∀ j u,((rows.drop (ql+1)).flatMap cellV)[j]?=some u→w'.cell? (x.add j)=some u from fun w' hb' x hx j u hu=>by
      by_cases hcb:rcap=ql+1
      ·have:rows.drop (ql+1)=[]:=List.drop_eq_nil_of_le (by omega)
       rw [this] at hu;simp at hu
      ·rw [if_neg hcb] at hso
       cases hra:rao with
       | none=>rw [hra] at hso;rw [← hso] at hx;cases hx
       | some y=>
        obtain⟨rb,rfl,hrb,_,hc⟩:=HSS.out y hra
        rw [hra] at hso
        rw [← hso] at hx
        obtain rfl:=Option.some.inj hx
        have h1:=hc _ u (flat_drop (show ∀ a,(cellV a).length=3 from fun _=>rfl) (by omega) hu)
        have hadd:((⟨rb,0,none⟩:Addr).add ((ql+1)*3)).add j=⟨rb,(ql+1)*3+j,none⟩:=by unfold Addr.add;split <;> simp_all
        rw [hadd]
        exact (hb'.cell (p:=⟨rb,(ql+1)*3+j,none⟩) hrb).trans h1)
     have HS2:=hide (show so2=none→rows.length-(ql+1)=0∧rcap-(ql+1)=0 from fun h=>by
      by_cases hcb:rcap=ql+1
      ·omega
      ·rw [if_neg hcb,h] at hso
       have:=HSN.out (by simpa using hso)
       omega)
     have HTL:=hide (show (rows.take (ql+1)).length=ql+1 from by rw [List.length_take];exact Nat.min_eq_left (by omega))
     have HBY:=hide (show (([]:List (RC × Value)).length+(ql+1))*40≤140737488355328 from by simp only [List.length_nil];omega)
     clear hsn hss hso
     go_wp2_with (at_builtin;refine wpList_pushes rfl (.tmp 83) (.tmp 89) 150 rfl (.agg #[.int .u8 0,.int .i64 0,.slice none 0 0]) 40 Tryz.underlying150 Tryz.infoRCell rfl (by decide) rfl (OwnL.nil 223 3 cellV w3 w3.heap.size) rao (ql+1) rcap (rows.take (ql+1)) rfl HTL.out (fun h=>by have:=HSN.out h;omega) HC1.out (fun _=>rfl) (fun p hp=>HONE.out p (List.mem_of_mem_take hp)) HBY.out (by decide) (Nat.le_refl _) ?_;intro v4 w4 hown4 hgrow4 hat4)
     have hb4:Below w3.heap.size w3 w4:=below_of_grown hgrow4 (fun b hb=>by cases hb) (Nat.le_refl _)
     have HV4:=hide hown4
     clear hown4 hgrow4 hat4
     go_loopw [14,15] (fun vr i wr=>∃ k:Nat,k≤text.size∧i=.int .i64 k∧OwnL 223 3 cellV wr w3.heap.size vr (rows.take (ql+1)++newTo text level k)∧Below w3.heap.size w3 wr) (fun _ i _=>text.size-(intOf i).toNat)
     case atStart=>exact⟨0,Nat.zero_le _,rfl,by simpa [newTo] using HV4.out,hb4⟩
     case round=>
      clear hb4 HV4
      obtain⟨wo,rfl⟩:∃ x,x=wr:=⟨_,rfl⟩
      obtain⟨k,hk,rfl,hvr,hbo⟩:=hrel
      have HVR:=hide hvr
      clear hvr
      have htl:(rows.take (ql+1)++newTo text level k).length≤rows.length+k:=by rw [List.length_append,newTo_length,List.length_take];omega
      by_cases hlt:k<text.size
      ·have HNS:=hide (newTo_succ text level k hlt)
       have hbA:Below wo.heap.size wo (wo.alloc (.cells #[.int .u8 text[k].toNat,.int .i64 level,.slice none 0 0] 223)):=below_box wo _
       have hboA:Below w3.heap.size w3 (wo.alloc (.cells #[.int .u8 text[k].toNat,.int .i64 level,.slice none 0 0] 223)):=hbo.alloc hbo.size _
       have HVRA:=hide (HVR.out.below hbA)
       have HNA:=hide (Go.heap_alloc_new wo (.cells #[.int .u8 text[k].toNat,.int .i64 level,.slice none 0 0] 223))
       generalize hT:rows.take (ql+1)++newTo text level k=T at *
       go_wp2_with (at_builtin;refine wpList_push rfl (.tmp 97) (.tmp 103) 150 rfl (.agg #[.int .u8 0,.int .i64 0,.slice none 0 0]) 40 Tryz.underlying150 Tryz.infoRCell rfl (by decide) rfl HVRA.out wo.heap.size 1 (⟨text[k].toNat,level,[]⟩,.slice none 0 0) rfl 223 (0,0) HNA.out rfl (by intro u hu;simp [cellV] at hu;rcases hu with rfl|rfl|rfl <;> rfl) (by omega) (by decide) hboA.size (wo.heap.size+1) (by simp) ?_;intro g6 cap6 w6 hown6 hgrow6 hat6 hlt6)
       have hb6:=hboA.trans (below_of_grown hgrow6 (fun b hb=>(HVRA.out.lt hb).1) hboA.size)
       go_roundw
       case rel=>exact⟨k+1,by omega,by go_num,by rw [HNS.out,← List.append_assoc,hT];exact hown6,hb6⟩
       case measure=>simp [intOf];omega
      ·obtain rfl:k=text.size:=by omega
       have hkc:decide ((text.size:Int)<(text.size:Int))=false:=by simp
       have r4o:=(hbo.cell (p:=⟨g,4,none⟩) hgl).trans r4
       have hnl:=newTo_length text level text.size
       have HPI:=hide (show putIn rows (newTo text level text.size) (ql+1)=rows.take (ql+1)++newTo text level text.size++rows.drop (ql+1) from rfl)
       generalize hT:rows.take (ql+1)++newTo text level text.size=T at *
       have HDO:=hide (show rows.length-(ql+1)=(rows.drop (ql+1)).length by simp)
       go_wp2_with (at_builtin;first|(refine wpList_pushes rfl (.tmp 106) (.tmp 112) 150 rfl (.agg #[.int .u8 0,.int .i64 0,.slice none 0 0]) 40 Tryz.underlying150 Tryz.infoRCell rfl (by decide) rfl HVR.out so2 (rows.length-(ql+1)) (rcap-(ql+1)) (rows.drop (ql+1)) rfl HDO.out.symm HS2.out (HC2.out _ hbo) (fun _=>rfl) (fun p hp=>HONE.out p (List.mem_of_mem_drop hp)) (by omega) (by decide) hbo.size ?_;intro v6 w6 hown6 hgrow6 hat6;have hb6:Below w3.heap.size w3 w6:=hbo.trans (below_of_grown hgrow6 (fun b hb=>(HVR.out.lt hb).1) hbo.size);obtain⟨ao6,cap6,hv6⟩:=hown6.shape;subst hv6;generalize hN6:(T++rows.drop (ql+1)).length=N6 at *;have HRS:=hide (rowStep (new:=newTo text level text.size) (k:=ql+1) HD3.out hb6 (by omega) (fun p hp=>newTo_mem hp) (by rw [HPI.out];exact hown6));have z4:=(hb6.cell (p:=⟨g,4,none⟩) hgl).trans r4;have z7:w6.frozen? ⟨g,4,none⟩=false:=frozen_of_row _ _ _ _ _ (Below.row hb6 HD3.out.box hgl);have t5:=HRS.out.1.box.acts;have hgl7:=HRS.out.1.box.lt;have hbA:=below_box (w6.setCell ⟨g,4,none⟩ (.slice ao6 N6 cap6)) (.cells #[.int .i64 1,.int .i64 level,.int .i64 level,.int .i64 0] 225);have HOA:=hide (HRS.out.1.acts.below hbA);have HNA:Hid (((w6.setCell ⟨g,4,none⟩ (.slice ao6 N6 cap6)).alloc (.cells #[.int .i64 1,.int .i64 level,.int .i64 level,.int .i64 0] 225)).heap[w6.heap.size]?=some (.cells #[.int .i64 1,.int .i64 level,.int .i64 level,.int .i64 0] 225 (0,0))):=(by have:=Go.heap_alloc_new (w6.setCell ⟨g,4,none⟩ (.slice ao6 N6 cap6)) (.cells #[.int .i64 1,.int .i64 level,.int .i64 level,.int .i64 0] 225);rwa [size_setCell'] at this);have HBS:=hide (Nat.le_trans HRS.out.1.old.size hbA.size);have hgl6:g<w6.heap.size:=Nat.lt_of_lt_of_le hgl hb6.size;have HAG:=hide (show ∀ b,av.ownBlock=some b→b≠g from fun b hb e=>by subst e;cases HD3.out.parts.apart .box .acts b rfl hb))|(refine wpList_push rfl (.tmp 120) (.tmp 124) 151 rfl (.agg #[.int .i64 0,.int .i64 0,.int .i64 0,.int .i64 0]) 32 Tryz.underlying151 Tryz.infoRAct rfl (by decide) rfl HOA.out w6.heap.size 1 ⟨1,level,level,0⟩ rfl 225 (0,0) HNA.out rfl (by intro u hu;simp [actV] at hu;rcases hu with rfl|rfl|rfl <;> rfl) (by omega) (by decide) HBS.out (w6.heap.size+1) (by simp) ?_;intro g8 cap8 w8 hown8 hgrow8 hat8 hlt8;have z5:=(hgrow8.cell_far ⟨g,5,none⟩ (by simp;omega) (fun e=>HAG.out _ e.symm rfl)).trans ((hbA.cell (p:=⟨g,5,none⟩) hgl7).trans t5);have z8:w8.frozen? ⟨g,5,none⟩=false:=by (rw [hgrow8.frozen_far ⟨g,5,none⟩ (by simp;omega) (fun e=>HAG.out _ e.symm rfl)];exact frozen_of_row _ _ _ _ _ (row_alloc' HRS.out.1.box))))
       obtain⟨m1,m2,m3⟩:=actStep HRS.out.1 hbA hown8 hgrow8 (by have h:av.ownBlock=some g8∨g8=w6.heap.size+1:=hat8;simpa using h) hlt8
       have HM1:=hide m1
       have HM2:=hide m2
       have HM3:=hide m3
       have hO:=(Only.of_below (F:=fun k=>∃ s,blkOf' g (.slice rao rows.length rcap) av rows s=some k) hbw3).trans HRS.out.2.1 (fun k h=>Or.inl h)
       clear m1 m2 m3
       go_ret
       refine⟨0,rfl,⟨fun h=>absurd (h.symm.trans HTO.out) (by decide),fun _ h=>absurd h (by have:=HQ.out;omega),fun _ _=>?_⟩⟩
       rw [HPE.out,HBE.out]
       exact⟨rfl,_,_,HM1.out,hO.trans HM2.out (fun b ⟨s,hs⟩=>(HRS.out.2.2 s b hs).imp id (fun h=>by have:=hbw3.size;omega)),fun s b hb=>by
        rcases HM3.out s b hb with⟨s',hs⟩|h
        ·exact (HRS.out.2.2 s' b hs).imp id (fun h=>by have:=hbw3.size;omega)
        ·right;have:=hO.size;omega⟩
    ·obtain rfl:a=0:=by omega
     have HBE:=hide (show behindR P 0=0 from rfl)
     have ha0:decide ((0:Int)<((0:Nat):Int))=false:=by simp
     obtain⟨rao,rcap,hrv⟩:=HD3.out.row.shape
     subst hrv
     obtain⟨hsn,hss⟩:=HD3.out.row.src
     have hcapn:rows.length≤rcap:=by
      cases hra:rao with
      | none=>have:=(hsn hra).1;omega
      | some x=>obtain⟨_,_,_,h,_⟩:=hss x hra;exact h
     have HSN:=hide hsn
     have HSS:=hide hss
     have r4:=HD3.out.box.row
     have hgl:=HD3.out.box.lt
     have hsl1:∀ w',(Instr.slice 150 (.slice rao rows.length rcap) none (some (.int .i64 0)) none).run Tryz.prog w'=.ok (.slice rao (0) rcap) w':=fun w'=>by
      have:=cut_head (ao:=rao) (n:=rows.length) (cap:=rcap) (k:=0) (fun x hx=>by obtain⟨rb,h,_⟩:=HSS.out x hx;exact⟨rb,h⟩) (by omega) w'
      simpa using this
     have hsl2:∀ w',(Instr.slice 150 (.slice rao rows.length rcap) (some (.int .i64 0)) none none).run Tryz.prog w'=.ok (.slice (if rcap=0 then rao else rao.map (·.add ((0)*3))) (rows.length-(0)) (rcap-(0))) w':=fun w'=>by
      have:=cut_tail (ao:=rao) (n:=rows.length) (cap:=rcap) (k:=0) (by omega) w'
      simpa using this
     have HONE:=hide (show ∀ p,p ∈ rows→∀ u,u ∈ cellV p→u.oneCell'=true from fun p hp u hu=>by
      obtain⟨i,hi,he⟩:=List.getElem_of_mem hp
      obtain⟨x,y,hxy⟩:=(HD3.out.marks i p (by rw [← he];exact List.getElem?_eq_getElem hi)).shape
      simp only [cellV,List.mem_cons,List.not_mem_nil,or_false] at hu
      rcases hu with rfl|rfl|rfl
      ·rfl
      ·rfl
      ·rw [hxy];rfl)
     have HC1:=hide (show ∀ x,rao=some x→∀ j u,((rows.take (0)).flatMap cellV)[j]?=some u→w3.cell? (x.add j)=some u from fun x hx j u hu=>by
      obtain⟨rb,rfl,_,_,hc⟩:=HSS.out x hx
      have:=hc j u (flat_take hu)
      have hadd:(⟨rb,0,none⟩:Addr).add j=⟨rb,j,none⟩:=by unfold Addr.add;split <;> simp_all
      rw [hadd];exact this)
     generalize hso:(if rcap=0 then rao else rao.map (·.add ((0)*3)))=so2 at *
     have HC2:=hide (show ∀ (w':World),Below w3.heap.size w3 w'→∀ x,so2=some x→∀ j u,((rows.drop (0)).flatMap cellV)[j]?=some u→w'.cell? (x.add j)=some u from fun w' hb' x hx j u hu=>by
      by_cases hcb:rcap=0
      ·have:rows.drop (0)=[]:=List.drop_eq_nil_of_le (by omega)
       rw [this] at hu;simp at hu
      ·rw [if_neg hcb] at hso
       cases hra:rao with
       | none=>rw [hra] at hso;rw [← hso] at hx;cases hx
       | some y=>
        obtain⟨rb,rfl,hrb,_,hc⟩:=HSS.out y hra
        rw [hra] at hso
        rw [← hso] at hx
        obtain rfl:=Option.some.inj hx
        have h1:=hc _ u (flat_drop (show ∀ a,(cellV a).length=3 from fun _=>rfl) (by omega) hu)
        have hadd:((⟨rb,0,none⟩:Addr).add ((0)*3)).add j=⟨rb,(0)*3+j,none⟩:=by unfold Addr.add;split <;> simp_all
        rw [hadd]
        exact (hb'.cell (p:=⟨rb,(0)*3+j,none⟩) hrb).trans h1)
     have HS2:=hide (show so2=none→rows.length-(0)=0∧rcap-(0)=0 from fun h=>by
      by_cases hcb:rcap=0
      ·omega
      ·rw [if_neg hcb,h] at hso
       have:=HSN.out (by simpa using hso)
       omega)
     have HTL:=hide (show (rows.take (0)).length=0 from by rw [List.length_take];exact Nat.min_eq_left (by omega))
     have HBY:=hide (show (([]:List (RC × Value)).length+(0))*40≤140737488355328 from by simp only [List.length_nil];omega)
     clear hsn hss hso
     go_wp2_with (at_builtin;refine wpList_pushes rfl (.tmp 83) (.tmp 89) 150 rfl (.agg #[.int .u8 0,.int .i64 0,.slice none 0 0]) 40 Tryz.underlying150 Tryz.infoRCell rfl (by decide) rfl (OwnL.nil 223 3 cellV w3 w3.heap.size) rao (0) rcap (rows.take (0)) rfl HTL.out (fun h=>by have:=HSN.out h;omega) HC1.out (fun _=>rfl) (fun p hp=>HONE.out p (List.mem_of_mem_take hp)) HBY.out (by decide) (Nat.le_refl _) ?_;intro v4 w4 hown4 hgrow4 hat4)
     have hb4:Below w3.heap.size w3 w4:=below_of_grown hgrow4 (fun b hb=>by cases hb) (Nat.le_refl _)
     have HV4:=hide hown4
     clear hown4 hgrow4 hat4
     go_loopw [14,15] (fun vr i wr=>∃ k:Nat,k≤text.size∧i=.int .i64 k∧OwnL 223 3 cellV wr w3.heap.size vr (rows.take (0)++newTo text level k)∧Below w3.heap.size w3 wr) (fun _ i _=>text.size-(intOf i).toNat)
     case atStart=>exact⟨0,Nat.zero_le _,rfl,by simpa [newTo] using HV4.out,hb4⟩
     case round=>
      clear hb4 HV4
      obtain⟨wo,rfl⟩:∃ x,x=wr:=⟨_,rfl⟩
      obtain⟨k,hk,rfl,hvr,hbo⟩:=hrel
      have HVR:=hide hvr
      clear hvr
      have htl:(rows.take (0)++newTo text level k).length≤rows.length+k:=by rw [List.length_append,newTo_length,List.length_take];omega
      by_cases hlt:k<text.size
      ·have HNS:=hide (newTo_succ text level k hlt)
       have hbA:Below wo.heap.size wo (wo.alloc (.cells #[.int .u8 text[k].toNat,.int .i64 level,.slice none 0 0] 223)):=below_box wo _
       have hboA:Below w3.heap.size w3 (wo.alloc (.cells #[.int .u8 text[k].toNat,.int .i64 level,.slice none 0 0] 223)):=hbo.alloc hbo.size _
       have HVRA:=hide (HVR.out.below hbA)
       have HNA:=hide (Go.heap_alloc_new wo (.cells #[.int .u8 text[k].toNat,.int .i64 level,.slice none 0 0] 223))
       generalize hT:rows.take (0)++newTo text level k=T at *
       go_wp2_with (at_builtin;refine wpList_push rfl (.tmp 97) (.tmp 103) 150 rfl (.agg #[.int .u8 0,.int .i64 0,.slice none 0 0]) 40 Tryz.underlying150 Tryz.infoRCell rfl (by decide) rfl HVRA.out wo.heap.size 1 (⟨text[k].toNat,level,[]⟩,.slice none 0 0) rfl 223 (0,0) HNA.out rfl (by intro u hu;simp [cellV] at hu;rcases hu with rfl|rfl|rfl <;> rfl) (by omega) (by decide) hboA.size (wo.heap.size+1) (by simp) ?_;intro g6 cap6 w6 hown6 hgrow6 hat6 hlt6)
       have hb6:=hboA.trans (below_of_grown hgrow6 (fun b hb=>(HVRA.out.lt hb).1) hboA.size)
       go_roundw
       case rel=>exact⟨k+1,by omega,by go_num,by rw [HNS.out,← List.append_assoc,hT];exact hown6,hb6⟩
       case measure=>simp [intOf];omega
      ·obtain rfl:k=text.size:=by omega
       have hkc:decide ((text.size:Int)<(text.size:Int))=false:=by simp
       have r4o:=(hbo.cell (p:=⟨g,4,none⟩) hgl).trans r4
       have hnl:=newTo_length text level text.size
       have HPI:=hide (show putIn rows (newTo text level text.size) (0)=rows.take (0)++newTo text level text.size++rows.drop (0) from rfl)
       generalize hT:rows.take (0)++newTo text level text.size=T at *
       have HDO:=hide (show rows.length-(0)=(rows.drop (0)).length by simp)
       go_wp2_with (at_builtin;first|(refine wpList_pushes rfl (.tmp 106) (.tmp 112) 150 rfl (.agg #[.int .u8 0,.int .i64 0,.slice none 0 0]) 40 Tryz.underlying150 Tryz.infoRCell rfl (by decide) rfl HVR.out so2 (rows.length-(0)) (rcap-(0)) (rows.drop (0)) rfl HDO.out.symm HS2.out (HC2.out _ hbo) (fun _=>rfl) (fun p hp=>HONE.out p (List.mem_of_mem_drop hp)) (by omega) (by decide) hbo.size ?_;intro v6 w6 hown6 hgrow6 hat6;have hb6:Below w3.heap.size w3 w6:=hbo.trans (below_of_grown hgrow6 (fun b hb=>(HVR.out.lt hb).1) hbo.size);obtain⟨ao6,cap6,hv6⟩:=hown6.shape;subst hv6;generalize hN6:(T++rows.drop (0)).length=N6 at *;have HRS:=hide (rowStep (new:=newTo text level text.size) (k:=0) HD3.out hb6 (by omega) (fun p hp=>newTo_mem hp) (by rw [HPI.out];exact hown6));have z4:=(hb6.cell (p:=⟨g,4,none⟩) hgl).trans r4;have z7:w6.frozen? ⟨g,4,none⟩=false:=frozen_of_row _ _ _ _ _ (Below.row hb6 HD3.out.box hgl);have t5:=HRS.out.1.box.acts;have hgl7:=HRS.out.1.box.lt;have hbA:=below_box (w6.setCell ⟨g,4,none⟩ (.slice ao6 N6 cap6)) (.cells #[.int .i64 1,.int .i64 level,.int .i64 level,.int .i64 0] 225);have HOA:=hide (HRS.out.1.acts.below hbA);have HNA:Hid (((w6.setCell ⟨g,4,none⟩ (.slice ao6 N6 cap6)).alloc (.cells #[.int .i64 1,.int .i64 level,.int .i64 level,.int .i64 0] 225)).heap[w6.heap.size]?=some (.cells #[.int .i64 1,.int .i64 level,.int .i64 level,.int .i64 0] 225 (0,0))):=(by have:=Go.heap_alloc_new (w6.setCell ⟨g,4,none⟩ (.slice ao6 N6 cap6)) (.cells #[.int .i64 1,.int .i64 level,.int .i64 level,.int .i64 0] 225);rwa [size_setCell'] at this);have HBS:=hide (Nat.le_trans HRS.out.1.old.size hbA.size);have hgl6:g<w6.heap.size:=Nat.lt_of_lt_of_le hgl hb6.size;have HAG:=hide (show ∀ b,av.ownBlock=some b→b≠g from fun b hb e=>by subst e;cases HD3.out.parts.apart .box .acts b rfl hb))|(refine wpList_push rfl (.tmp 120) (.tmp 124) 151 rfl (.agg #[.int .i64 0,.int .i64 0,.int .i64 0,.int .i64 0]) 32 Tryz.underlying151 Tryz.infoRAct rfl (by decide) rfl HOA.out w6.heap.size 1 ⟨1,level,level,0⟩ rfl 225 (0,0) HNA.out rfl (by intro u hu;simp [actV] at hu;rcases hu with rfl|rfl|rfl <;> rfl) (by omega) (by decide) HBS.out (w6.heap.size+1) (by simp) ?_;intro g8 cap8 w8 hown8 hgrow8 hat8 hlt8;have z5:=(hgrow8.cell_far ⟨g,5,none⟩ (by simp;omega) (fun e=>HAG.out _ e.symm rfl)).trans ((hbA.cell (p:=⟨g,5,none⟩) hgl7).trans t5);have z8:w8.frozen? ⟨g,5,none⟩=false:=by (rw [hgrow8.frozen_far ⟨g,5,none⟩ (by simp;omega) (fun e=>HAG.out _ e.symm rfl)];exact frozen_of_row _ _ _ _ _ (row_alloc' HRS.out.1.box))))
       obtain⟨m1,m2,m3⟩:=actStep HRS.out.1 hbA hown8 hgrow8 (by have h:av.ownBlock=some g8∨g8=w6.heap.size+1:=hat8;simpa using h) hlt8
       have HM1:=hide m1
       have HM2:=hide m2
       have HM3:=hide m3
       have hO:=(Only.of_below (F:=fun k=>∃ s,blkOf' g (.slice rao rows.length rcap) av rows s=some k) hbw3).trans HRS.out.2.1 (fun k h=>Or.inl h)
       clear m1 m2 m3
       go_ret
       refine⟨0,rfl,⟨fun h=>absurd (h.symm.trans HTO.out) (by decide),fun _ h=>absurd h (by have:=HQ.out;omega),fun _ _=>?_⟩⟩
       rw [HPE.out,HBE.out]
       exact⟨rfl,_,_,HM1.out,hO.trans HM2.out (fun b ⟨s,hs⟩=>(HRS.out.2.2 s b hs).imp id (fun h=>by have:=hbw3.size;omega)),fun s b hb=>by
        rcases HM3.out s b hb with⟨s',hs⟩|h
        ·exact (HRS.out.2.2 s' b hs).imp id (fun h=>by have:=hbw3.size;omega)
        ·right;have:=hO.size;omega⟩
end Go.Proofs.YtgigkiocdiffjaaGreat
