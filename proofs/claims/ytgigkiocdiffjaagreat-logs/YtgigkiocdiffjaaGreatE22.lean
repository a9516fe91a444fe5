import Derived.Test.YtgigkiocdiffjaaGreatE21
import Derived.Test.YtgigkiocdiffjaaGreatE19
import Derived.Test.YtgigkiocdiffjaaGreatE18
import Derived.Test.YtgigkiocdiffjaaGreatE13
set_option maxRecDepth 100000
set_option maxHeartbeats 16000000
namespace Go.Proofs.YtgigkiocdiffjaaGreat
open Go.RowKit Veil
theorem rrelease_no1 (c:Cfg) (v:CfgV) (rows:List (RC × Value)) (rv av:Value) (g:Nat) (level a b lb2:Int) (w:World) (hdoc:RDocR w g c v rows rv av) (hlv:okL c.labels level=false) :
  Calls Tryz.prog 135 #[.pointer (some ⟨g,0,none⟩),.int .i64 level,.int .i64 a,.int .i64 b,.int .i64 lb2] w fun e w'=>e=.returned (.int .i64 6)∧Below w.heap.size w w':=by
 have HLB:=hide (fun w'=>rlabel_any c v level w')
 obtain⟨q0,q1,q2,q3⟩:=hdoc.box.cells
 rw [hlv] at HLB
 unfold cfgCells at HLB
 clear hlv hdoc
 go_enter Tryz.func135,Tryz.ntmps135
 go_wp2_with fail
 refine (HLB.out _).mono ?_
 rintro e w1 ⟨rfl,hb1⟩
 go_wp2
 go_ret
 exact⟨rfl,hb1⟩
theorem rrelease_no1b (c:Cfg) (v:CfgV) (rows:List (RC × Value)) (rv av:Value) (g:Nat) (level a b lb2:Int) (w:World) (hdoc:RDocR w g c v rows rv av) (hlv:okL c.labels level=true) (hlb:okL c.labels lb2=false) :
  Calls Tryz.prog 135 #[.pointer (some ⟨g,0,none⟩),.int .i64 level,.int .i64 a,.int .i64 b,.int .i64 lb2] w fun e w'=>e=.returned (.int .i64 6)∧Below w.heap.size w w':=by
 have HLB:=hide (fun w'=>rlabel_any c v level w')
 have HLB2:=hide (fun w'=>rlabel_any c v lb2 w')
 have HBX:=hide hdoc.box
 have hgl:=hdoc.box.lt
 obtain⟨q0,q1,q2,q3⟩:=hdoc.box.cells
 rw [hlv] at HLB
 rw [hlb] at HLB2
 unfold cfgCells at HLB HLB2
 clear hlv hlb hdoc
 go_enter Tryz.func135,Tryz.ntmps135
 go_wp2_with fail
 refine (HLB.out _).mono ?_
 rintro e w1 ⟨rfl,hb1⟩
 clear q0 q1 q2 q3
 obtain⟨q0,q1,q2,q3⟩:=(HBX.out.below hb1 hgl).cells
 go_wp2_with fail
 refine (HLB2.out _).mono ?_
 rintro e w2 ⟨rfl,hb2⟩
 have hb:=hb1.trans (hb2.mono hb1.size)
 clear hb1 hb2 q0 q1 q2 q3
 go_wp2
 go_ret
 exact⟨rfl,hb⟩
theorem rrelease_no2 (c:Cfg) (v:CfgV) (rows:List (RC × Value)) (rv av:Value) (g:Nat) (level a b tg:Int) (w:World) (hdoc:RDocR w g c v rows rv av) (hok:RDocOk c rows) (hlv:okL c.labels level=true) (hlb:okL c.labels tg=true) (hgr:c.grants.any (grantIs level tg)=false) :
  Calls Tryz.prog 135 #[.pointer (some ⟨g,0,none⟩),.int .i64 level,.int .i64 a,.int .i64 b,.int .i64 tg] w fun e w'=>e=.returned (.int .i64 10)∧Below w.heap.size w w':=by
 have HLB:=hide (fun w'=>rlabel_any c v level w')
 have HLB2:=hide (fun w'=>rlabel_any c v tg w')
 have HGR:=hide (fun (w':World) (hb:Below w.heap.size w w')=>rgranted_any c v rv av g level tg w' hok.cfg (hdoc.cfg.below hb) (hdoc.box.below hb hdoc.box.lt))
 have HBX:=hide hdoc.box
 have hgl0:=hdoc.box.lt
 obtain⟨q0,q1,q2,q3⟩:=hdoc.box.cells
 rw [hlv] at HLB
 rw [hlb] at HLB2
 rw [hgr] at HGR
 unfold cfgCells at HLB HLB2
 clear hlv hlb hdoc hok hgr
 go_enter Tryz.func135,Tryz.ntmps135
 go_wp2_with fail
 refine (HLB.out _).mono ?_
 rintro e w01 ⟨rfl,hb01⟩
 clear q0 q1 q2 q3
 obtain⟨q0,q1,q2,q3⟩:=(HBX.out.below hb01 hgl0).cells
 go_wp2_with fail
 refine (HLB2.out _).mono ?_
 rintro e w1 ⟨rfl,hb02⟩
 have hb1:=hb01.trans (hb02.mono hb01.size)
 clear hb01 hb02
 go_wp2_with fail
 refine (HGR.out _ hb1).mono ?_
 rintro e w2 ⟨rfl,hb2⟩
 have hb:=hb1.trans (hb2.mono hb1.size)
 clear hb1 hb2 q0 q1 q2 q3
 go_wp2
 go_ret
 exact⟨rfl,hb⟩
theorem rrelease_no3 (c:Cfg) (v:CfgV) (rows:List (RC × Value)) (rv av:Value) (g level:Nat) (a b tg:Int) (w:World) (hdoc:RDocR w g c v rows rv av) (hok:RDocOk c rows) (hlv:okL c.labels level=true) (hlb:okL c.labels tg=true) (hgr:c.grants.any (grantIs level tg)=true) (hno:a<0∨b≤a∨((placesR c (rows.map (·.1)) level).length:Int)<b) :
  Calls Tryz.prog 135 #[.pointer (some ⟨g,0,none⟩),.int .i64 level,.int .i64 a,.int .i64 b,.int .i64 tg] w fun e w'=>e=.returned (.int .i64 7)∧Below w.heap.size w w':=by
 obtain⟨_,_,_,_,hn,_,_⟩:=labels_of hok.labels
 obtain⟨lv,hlv1,hlv2⟩:=okL_nat' hn hlv
 obtain rfl:level=lv:=by omega
 have HCE:=hide (fun (w':World) (hb:Below w.heap.size w w')=>rcells_no c v rows rv av g level a b w' (hdoc.below hb) hok hlv2 hno)
 have HLB:=hide (fun w'=>rlabel_any c v level w')
 have HLB2:=hide (fun w'=>rlabel_any c v tg w')
 have HGR:=hide (fun (w':World) (hb:Below w.heap.size w w')=>rgranted_any c v rv av g level tg w' hok.cfg (hdoc.cfg.below hb) (hdoc.box.below hb hdoc.box.lt))
 have HBX:=hide hdoc.box
 have hgl0:=hdoc.box.lt
 obtain⟨q0,q1,q2,q3⟩:=hdoc.box.cells
 rw [hlv] at HLB
 rw [hlb] at HLB2
 rw [hgr] at HGR
 unfold cfgCells at HLB HLB2
 clear hlv hlb hdoc hok hgr hno hn hlv1
 go_enter Tryz.func135,Tryz.ntmps135
 go_wp2_with fail
 refine (HLB.out _).mono ?_
 rintro e w01 ⟨rfl,hb01⟩
 clear q0 q1 q2 q3
 obtain⟨q0,q1,q2,q3⟩:=(HBX.out.below hb01 hgl0).cells
 go_wp2_with fail
 refine (HLB2.out _).mono ?_
 rintro e w1 ⟨rfl,hb02⟩
 have hb1:=hb01.trans (hb02.mono hb01.size)
 clear hb01 hb02
 go_wp2_with fail
 refine (HGR.out _ hb1).mono ?_
 rintro e w2 ⟨rfl,hb2⟩
 have hb:=hb1.trans (hb2.mono hb1.size)
 clear hb1 hb2 q0 q1 q2 q3
 go_wp2_with fail
 refine (HCE.out _ hb).mono ?_
 rintro e w3 ⟨rfl,hb3⟩
 have hb4:=hb.trans (hb3.mono hb.size)
 clear hb hb3
 go_wp2
 go_ret
 exact⟨rfl,hb4⟩
theorem all_snoc {α:Type} (p:α→Bool) (l:List α) (i:Nat) (a:α) (h:l[i]?=some a):(l.take (i+1)).all p=((l.take i).all p && p a):=by
 rw [List.take_add_one,h];simp
def maskTo (s:ByteArray) (a k:Nat):Bool:=(List.range' a (k-a)).any fun j=>bt s j == 35
theorem maskTo_succ {s:ByteArray} {a k:Nat} (h:a≤k):maskTo s a (k+1)=(maskTo s a k || (bt s k == 35)):=by
 unfold maskTo
 rw [show k+1-a=(k-a)+1 by omega,List.range'_concat,List.any_append,show a+1*(k-a)=k by omega]
 simp
theorem maskTo_mono {s:ByteArray} {a k m:Nat} (h:a≤k) (hkm:k<m) (hb:(bt s k == 35)=true):maskTo s a m=true:=by
 unfold maskTo
 refine List.any_eq_true.2 ⟨k,?_,hb⟩
 rw [List.mem_range']
 exact⟨k-a,by omega,by omega⟩
def mayR (c:Cfg) (row:List RC) (tg r:Nat):Bool:=c.le (cellAt row r).origin tg
structure RelIs (w0 w w':World) (g:Nat) (c:Cfg) (v:CfgV) (rows:List (RC × Value)) (acts:List RA) (rv av:Value) (level a b tg:Nat) (L:List Nat) (s:ByteArray) (code:Int):Prop where
 mask:maskTo s a b=true→code=11∧Below w.heap.size w w'
 origin:maskTo s a b=false→L.all (mayR c (rows.map (·.1)) tg)=false→code=12∧Below w.heap.size w w'
 full:maskTo s a b=false→L.all (mayR c (rows.map (·.1)) tg)=true→8≤(logTo c acts tg acts.length).length→code=13∧Below w.heap.size w w'
 ok:maskTo s a b=false→L.all (mayR c (rows.map (·.1)) tg)=true→(logTo c acts tg acts.length).length<8→code=0∧∃ rows' av',RDocO w0 w' g c v rows' (acts++[⟨4,level,tg,L.length⟩]) rv av'∧rows'.map (·.1)=markAll (rows.map (·.1)) L ⟨4,tg,0⟩∧Only (fun k=>∃ s,blkOf' g rv av rows s=some k) w w'∧(∀ s b,blkOf' g rv av' rows' s=some b→(∃ s,blkOf' g rv av rows s=some b)∨w.heap.size≤b)
theorem rrelease_any (w0 w:World) (g:Nat) (c:Cfg) (v:CfgV) (rows:List (RC × Value)) (acts:List RA) (rv av:Value) (level a b tg:Nat) (hdoc:RDocO w0 w g c v rows acts rv av) (hok:RDocOk c rows) (hlv:okL c.labels level=true) (hlb:okL c.labels tg=true) (hgr:c.grants.any (grantIs level tg)=true) (hab:a<b) (hbl:b≤(placesR c (rows.map (·.1)) level).length) (hra:∀ a,a ∈ acts→RAOk c a)
  (hmk:∀ (i:Nat) (p:RC × Value),rows[i]?=some p→p.1.marks.length≤4000000000000) (hal:acts.length≤4000000000000) (hrc:(cellsTo c (rows.map (·.1)) level (placesR c (rows.map (·.1)) level) a b).length≤1000000000000∧∀ r,r ∈ cellsTo c (rows.map (·.1)) level (placesR c (rows.map (·.1)) level) a b→r<rows.length) :
  Calls Tryz.prog 135 #[.pointer (some ⟨g,0,none⟩),.int .i64 level,.int .i64 a,.int .i64 b,.int .i64 tg] w
   fun e w'=>∃ code,e=.returned (.int .i64 code)∧RelIs w0 w w' g c v rows acts rv av level a b tg (cellsTo c (rows.map (·.1)) level (placesR c (rows.map (·.1)) level) a b) (viewT (placesR c (rows.map (·.1)) level)) code:=by
 obtain⟨_,_,_,_,hn,_,_⟩:=labels_of hok.labels
 obtain⟨lv,hlv1,hlv2⟩:=okL_nat' hn hlv
 obtain rfl:level=lv:=by omega
 obtain⟨lt,hlt1,hlt2⟩:=okL_nat' hn hlb
 obtain rfl:tg=lt:=by omega
 obtain⟨hp1,hp2⟩:=places_of hok level
 obtain⟨hv1,hv2⟩:=view_of hok level
 have HLB:=hide (fun w'=>rlabel_any c v level w')
 have HLB2:=hide (fun w'=>rlabel_any c v tg w')
 have HGR:=hide (fun (w':World) (hb:Below w.heap.size w w')=>rgranted_any c v rv av g level tg w' hok.cfg (hdoc.read.cfg.below hb) (hdoc.box.below hb hdoc.box.lt))
 have HCE:=hide (fun (w':World) (hb:Below w.heap.size w w')=>rcells_ok c v rows rv av g level a b w' (hdoc.read.below hb) hok hlv2 hab hbl hp1 (fun p hp=>⟨(hp2 p hp).le,(hp2 p hp).lt⟩))
 have HVW:=hide (fun (w':World) (hb:Below w.heap.size w w')=>rview_ok c v rows rv av g level w' (hdoc.read.below hb) hok hlv hv1 hv2)
 have HLQ:=hide (fun (x:Nat) (w':World) (hx:x<c.n) (hb:Below w.heap.size w w')=>rleq_any c v x tg w' hok.labels (hdoc.read.cfg.below hb) hx hlt2)
 have HLG:=hide (fun (w':World) (hb:Below w.heap.size w w')=>rlog_ok w0 w' g c v rows acts rv av tg (hdoc.drop hb) hok hlb hra hal)
 have HDOC:=hide hdoc
 have HCO:=hide (fun p hp=>(hok.cells p hp).1.origin)
 have HBX:=hide hdoc.box
 have hgl0:=hdoc.box.lt
 obtain⟨q0,q1,q2,q3⟩:=hdoc.box.cells
 rw [hlv] at HLB
 rw [hlb] at HLB2
 rw [hgr] at HGR
 unfold cfgCells at HLB HLB2 HLQ
 have HRC:=hide hrc
 have HMK:=hide hmk
 have hss:=viewT_size (placesR c (rows.map (·.1)) level)
 generalize cellsTo c (rows.map (·.1)) level (placesR c (rows.map (·.1)) level) a b=L at *
 generalize viewT (placesR c (rows.map (·.1)) level)=s at *
 have hLl:L.length≤1000000000000:=HRC.out.1
 have hbs:b≤s.size:=by omega
 have hss2:s.size≤1000000:=by omega
 have hlen:=hok.length
 generalize hrr:rows.map (·.1)=row at *
 have HRR:=hide hrr
 clear hlv hlb hdoc hok hn hlv1 hlt1 hp1 hp2 hbl hrc hmk hgr hv1 hv2 hra hss hrr
 go_enter Tryz.func135,Tryz.ntmps135
 go_wp2_with fail
 refine (HLB.out _).mono ?_
 rintro e w01 ⟨rfl,hb01⟩
 clear q0 q1 q2 q3
 obtain⟨q0,q1,q2,q3⟩:=(HBX.out.below hb01 hgl0).cells
 go_wp2_with fail
 refine (HLB2.out _).mono ?_
 rintro e w1 ⟨rfl,hb02⟩
 have hb1:=hb01.trans (hb02.mono hb01.size)
 clear hb01 hb02 q0 q1 q2 q3
 go_wp2_with fail
 refine (HGR.out _ hb1).mono ?_
 rintro e w2 ⟨rfl,hb2⟩
 have hbg:=hb1.trans (hb2.mono hb1.size)
 clear hb1 hb2
 go_wp2_with fail
 refine (HCE.out _ hbg).mono ?_
 rintro e w3 ⟨vl,rfl,hvl,hb3⟩
 have hbc:=hbg.trans (hb3.mono hbg.size)
 have hszg:=hbg.size
 have HVL:=hide hvl
 obtain⟨lao,lcap,hvv⟩:=hvl.shape
 subst hvv
 clear hvl hb3
 go_wp2_with fail
 refine (HVW.out _ hbc).mono ?_
 rintro e w4 ⟨rfl,hb4⟩
 have hbv:=hbc.trans (hb4.mono hbc.size)
 have HVL4:=hide (HVL.out.below hb4)
 clear hb4
 go_wp2
 go_loop [15] (fun i=>∃ k:Nat,a≤k∧k≤b∧i=.int .i64 k∧maskTo s a k=false) (fun i=>b-(intOf i).toNat)
 case atStart=>exact⟨a,Nat.le_refl _,by omega,rfl,by simp [maskTo]⟩
 case round=>
  obtain⟨k,hk1,hk2,rfl,hmt⟩:=hrel
  have HMT:=hide hmt
  clear hmt
  by_cases hlt:k<b
  ·have hks:k<s.size:=by omega
   have hkb:(k:Int)<(b:Int):=by omega
   have hksi:(k:Int)<(s.size:Int):=by omega
   have HBT:=hide (bt_get s k hks)
   by_cases hm:s[k].toNat=35
   ·have HZ:=hide (maskTo_mono hk1 hlt (show (bt s k == 35)=true by rw [HBT.out,hm];rfl))
    have hm':((s[k].toNat:Nat):Int)=35:=by omega
    clear hm
    go_wp2
    go_ret
    exact⟨11,rfl,fun _=>⟨rfl,hbv⟩,fun h=>absurd (h.symm.trans HZ.out) (by decide),fun h=>absurd (h.symm.trans HZ.out) (by decide),fun h=>absurd (h.symm.trans HZ.out) (by decide)⟩
   ·have HZ:=hide (show maskTo s a (k+1)=false by rw [maskTo_succ hk1,HMT.out,HBT.out];simpa using hm)
    have hm':(((s[k].toNat:Nat):Int) == 35)=false:=by simp;omega
    clear hm
    go_wp2
    go_round
    case rel=>exact⟨k+1,by omega,by omega,by go_num,HZ.out⟩
    case measure=>simp [intOf];omega
  ·obtain rfl:k=b:=by omega
   have hkc:decide ((k:Int)<(k:Int))=false:=by simp
   go_wp2
   go_loopw [16] (fun i wr=>∃ j:Nat,j≤L.length∧i=.int .i64 j∧(L.take j).all (mayR c row tg)=true∧Below w4.heap.size w4 wr) (fun i _=>L.length-(intOf i).toNat)
   case atStart=>exact⟨0,Nat.zero_le _,rfl,rfl,Below.refl _ _⟩
   case round=>
    obtain⟨wo,rfl⟩:∃ x,x=wr:=⟨_,rfl⟩
    obtain⟨j,hj,rfl,hmay,hbo⟩:=hrel
    have HMAY:=hide hmay
    clear hmay
    have hbw:=hbv.trans (hbo.mono hbv.size)
    by_cases hjl:j<L.length
    ·obtain⟨lb,lc,hvv,hlb1,hlb2⟩:=HVL4.out.form (by omega)
     simp only [Value.slice.injEq] at hvv
     obtain⟨rfl,_,rfl⟩:=hvv
     have hej:L[j]?=some L[j]:=List.getElem?_eq_getElem hjl
     have hrl:=HRC.out.2 _ (List.getElem_mem hjl)
     have c0:=HVL4.out.cell (show ∀ a,(intV a).length=1 from fun _=>rfl) rfl hej (j:=0) Nat.zero_lt_one
     have HSN:=hide (all_snoc (mayR c row tg) L j _ hej)
     have HMEM:=hide (List.getElem_mem hjl)
     generalize L[j]=r at *
     have l0:wo.cell? ⟨lb,j,none⟩=some (.int .i64 r):=(hbo.cell (p:=⟨lb,j,none⟩) hlb2).trans (by simpa [intV] using c0)
     obtain⟨rb,rcp,hrv,_,hrb⟩:=HDOC.out.row.form (by omega)
     subst hrv
     have hp:rows[r]?=some rows[r]:=List.getElem?_eq_getElem hrl
     have o1:=HDOC.out.row.cell (show ∀ a,(cellV a).length=3 from fun _=>rfl) rfl hp (j:=1) (by omega)
     have hxo:=HCO.out _ (List.getElem_mem hrl)
     have HCA:=hide (show cellAt row r=rows[r].1 by rw [← HRR.out];exact cellAt_map _ hp)
     generalize rows[r]=p at *
     obtain⟨⟨xb,xo,xm⟩,mv⟩:=p
     simp only at hxo HCA
     have o1':wo.cell? ⟨rb,r*3+1,none⟩=some (.int .i64 xo):=(hbw.cell (p:=⟨rb,r*3+1,none⟩) hrb).trans o1
     have HGB:=hide (HBX.out.below hbw hgl0)
     obtain⟨q0,q1,q2,q3⟩:=HGB.out.cells
     have q4:=HGB.out.row
     have HL1:=hide (HLQ.out xo wo.drew hxo hbw.drew)
     have hgo:=HGB.out.lt
     have hlbo:lb<wo.heap.size:=Nat.lt_of_lt_of_le hlb2 hbo.size
     have hrbo:rb<wo.heap.size:=Nat.lt_of_lt_of_le hrb hbw.size
     have hji:(j:Int)<(L.length:Int):=by omega
     have hri:(r:Int)<(rows.length:Int):=by omega
     clear hej c0 hp o1
     go_wp2_with fail
     first|(go_region_held (fun w'=>w'.cell? ⟨g,0,none⟩=some (.int .i64 c.labels)∧w'.cell? ⟨g,1,none⟩=some (.slice v.ea c.edges.length v.ec)∧w'.cell? ⟨g,2,none⟩=some (.slice v.ra c.rules.length v.rc)∧w'.cell? ⟨g,3,none⟩=some (.slice v.ga c.grants.length v.gc)∧w'.cell? ⟨g,4,none⟩=some (.slice (some ⟨rb,0,none⟩) rows.length rcp)∧w'.cell? ⟨lb,j,none⟩=some (.int .i64 r)∧w'.cell? ⟨rb,r*3+1,none⟩=some (.int .i64 xo)) (go_keep) (first|(go_at_call 102;refine (HL1.out).mono ?_;rintro e w5 ⟨rfl,hb5⟩;have s0:=(hb5.cell (p:=⟨g,0,none⟩) hgo).trans q0;have s1:=(hb5.cell (p:=⟨g,1,none⟩) hgo).trans q1;have s2:=(hb5.cell (p:=⟨g,2,none⟩) hgo).trans q2;have s3:=(hb5.cell (p:=⟨g,3,none⟩) hgo).trans q3;have s4:=(hb5.cell (p:=⟨g,4,none⟩) hgo).trans q4;have s5:=(hb5.cell (p:=⟨lb,j,none⟩) hlbo).trans l0;have s6:=(hb5.cell (p:=⟨rb,r*3+1,none⟩) hrbo).trans o1')))|fail "no"
     have hbo5:=hbo.drew.trans (hb5.mono hbo.drew.size)
     have hbw5:=hbw.drew.trans (hb5.mono hbw.drew.size)
     cases hle:c.le xo tg
     ·have HF:=hide (show L.all (mayR c (rows.map (·.1)) tg)=false by
       rw [HRR.out,List.all_eq_false]
       exact⟨r,HMEM.out,by unfold mayR;rw [HCA.out];simp [hle]⟩)
      clear hle
      go_wp2
      go_ret
      exact⟨12,rfl,fun h=>absurd (h.symm.trans HMT.out) (by decide),fun _ _=>⟨rfl,hbw5⟩,fun _ h=>absurd (h.symm.trans HF.out) (by decide),fun _ h=>absurd (h.symm.trans HF.out) (by decide)⟩
     ·have HZ:=hide (show (L.take (j+1)).all (mayR c row tg)=true by rw [HSN.out,HMAY.out];unfold mayR;rw [HCA.out];simp [hle])
      clear hle
      go_wp2
      go_roundw
      case rel=>exact⟨j+1,by omega,by go_num,HZ.out,hbo5⟩
      case measure=>simp [intOf];omega
    ·obtain rfl:j=L.length:=by omega
     have hjc:decide ((L.length:Int)<(L.length:Int))=false:=by simp
     have HMA2:=hide (show L.all (mayR c (rows.map (·.1)) tg)=true by rw [HRR.out];have:=HMAY.out;rwa [List.take_length] at this)
     go_wp2_with fail
     refine (HLG.out _ hbw).mono ?_
     rintro e w6 ⟨vg,rfl,hvg,hb6⟩
     have hb6w:=hbw.trans (hb6.mono hbw.size)
     have HVL6:=hide ((HVL4.out.below hbo).below hb6)
     obtain⟨gao,gcap,hvv⟩:=hvg.shape
     subst hvv
     clear hvg hb6
     by_cases hfull:8≤(logTo c acts tg acts.length).length
     ·have hfi:(8:Int)≤((logTo c acts tg acts.length).length:Int):=by omega
      go_wp2
      go_ret
      exact⟨13,rfl,fun h=>absurd (h.symm.trans HMT.out) (by decide),fun _ h=>absurd (h.symm.trans HMA2.out) (by decide),fun _ _ _=>⟨rfl,hb6w⟩,fun _ _ h=>absurd h (by omega)⟩
     ·have hfi:((logTo c acts tg acts.length).length:Int)<8:=by omega
      have hfd:decide ((8:Int)≤((logTo c acts tg acts.length).length:Int))=false:=by simp;omega
      have HD2:=hide (HDOC.out.drop hb6w)
      have HMA:Hid (Calls Tryz.prog 160 #[.pointer (some ⟨g,0,none⟩),.slice lao L.length lcap,.agg #[.int .i64 4,.int .i64 tg,.int .i64 0]] w6
        fun e w'=>e=.returned (.tuple #[])∧∃ rows',RDocO w0 w' g c v rows' acts rv av∧rows'.map (·.1)=markAll (rows.map (·.1)) L ⟨4,tg,0⟩∧Only (fun k=>∃ s,blkOf' g rv av rows s=some k) w6 w'∧(∀ s b,blkOf' g rv av rows' s=some b→(∃ s,blkOf' g rv av rows s=some b)∨w6.heap.size≤b)):=by
       by_cases hL0:L.length=0
       ·exact rmark_any w0 w6 g c v rows acts rv av L lao 0 lcap ⟨4,tg,0⟩ HD2.out (Or.inl (List.eq_nil_of_length_eq_zero hL0)) (fun h=>absurd (List.eq_nil_of_length_eq_zero hL0) h) (fun h=>absurd (List.eq_nil_of_length_eq_zero hL0) h) (fun k r h=>by rw [List.eq_nil_of_length_eq_zero hL0] at h;simp at h) (by omega) (fun i p hp=>by have:=HMK.out i p hp;omega)
       ·obtain⟨lb,lc,hvv,hlb1,hlb2⟩:=HVL6.out.form (by omega)
        simp only [Value.slice.injEq] at hvv
        obtain⟨rfl,_,rfl⟩:=hvv
        refine rmark_any w0 w6 g c v rows acts rv av L _ lb lcap ⟨4,tg,0⟩ HD2.out (Or.inr rfl) (fun _=>hlb2) (fun _ s hs=>?_) (fun k r h=>⟨?_,HRC.out.2 r (List.mem_of_getElem? h)⟩) (by have:=HRC.out.1;omega) (fun i p hp=>by have:=HMK.out i p hp;have:=HRC.out.1;omega)
        ·have:=(HDOC.out.parts.low s lb hs).2
         omega
        ·have:=HVL6.out.cell (show ∀ a,(intV a).length=1 from fun _=>rfl) rfl h (j:=0) Nat.zero_lt_one
         simpa [intV] using this
      go_wp2_with fail
      refine (HMA.out).mono ?_
      rintro e w7 ⟨rfl,rows',hd3,hm3,ho3,hf3⟩
      have HD3:=hide hd3
      have HM3:=hide hm3
      have HO3:=hide ((Only.of_below (F:=fun k=>∃ s,blkOf' g rv av rows s=some k) hb6w).trans ho3 (fun k h=>Or.inl h))
      have HF3:=hide (show ∀ s b,blkOf' g rv av rows' s=some b→(∃ s,blkOf' g rv av rows s=some b)∨w.heap.size≤b from fun s b hb=>(hf3 s b hb).imp id (fun h=>by have:=hb6w.size;omega))
      have t5:=hd3.box.acts
      have hgl:=hd3.box.lt
      have hbA:Below w7.heap.size w7 (w7.alloc (.cells #[.int .i64 4,.int .i64 level,.int .i64 tg,.int .i64 L.length] 225)):=below_box w7 _
      have HOA:=hide (hd3.acts.below hbA)
      have HNA:=hide (Go.heap_alloc_new w7 (.cells #[.int .i64 4,.int .i64 level,.int .i64 tg,.int .i64 L.length] 225))
      have HAG:=hide (show ∀ b,av.ownBlock=some b→b≠g from fun b hb e=>by subst e;cases HD3.out.parts.apart .box .acts b rfl hb)
      have HBX3:=hide hd3.box
      have hB0:=hd3.old.size
      clear hd3 hm3 ho3 hf3
      go_wp2_with (at_builtin;refine wpList_push rfl (.tmp 111) (.tmp 117) 151 rfl (.agg #[.int .i64 0,.int .i64 0,.int .i64 0,.int .i64 0]) 32 Tryz.underlying151 Tryz.infoRAct rfl (by decide) rfl HOA.out w7.heap.size 1 ⟨4,level,tg,L.length⟩ rfl 225 (0,0) HNA.out rfl (by intro u hu;simp [actV] at hu;rcases hu with rfl|rfl|rfl|rfl <;> rfl) (by omega) (by decide) (by simp;omega) (w7.heap.size+1) (by simp) ?_;intro g6 cap6 w8 hown6 hgrow6 hat6 hlt6;have z5:=(hgrow6.cell_far ⟨g,5,none⟩ (by simp;omega) (fun e=>HAG.out _ e.symm rfl)).trans ((hbA.cell (p:=⟨g,5,none⟩) hgl).trans t5);have z7:w8.frozen? ⟨g,5,none⟩=false:=by (rw [hgrow6.frozen_far ⟨g,5,none⟩ (by simp;omega) (fun e=>HAG.out _ e.symm rfl)];exact frozen_of_row _ _ _ _ _ (row_alloc' HBX3.out)))
      obtain⟨n1,n2,n3⟩:=actStep HD3.out hbA hown6 hgrow6 (by have h:av.ownBlock=some g6∨g6=w7.heap.size+1:=hat6;simpa using h) hlt6
      go_ret
      exact⟨0,rfl,fun h=>absurd (h.symm.trans HMT.out) (by decide),fun _ h=>absurd (h.symm.trans HMA2.out) (by decide),fun _ _ h=>absurd h (by omega),fun _ _ _=>⟨rfl,rows',_,n1,HM3.out,HO3.out.trans n2 (fun b ⟨s,hs⟩=>HF3.out s b hs),fun s b hb=>by
       rcases n3 s b hb with⟨s',hs⟩|h
       ·exact HF3.out s' b hs
       ·right;have:=HO3.out.size;omega⟩⟩
end Go.Proofs.YtgigkiocdiffjaaGreat
