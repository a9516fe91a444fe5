import Derived.Test.YtgigkiocdiffjaaGreatE29
import Derived.Test.YtgigkiocdiffjaaGreatE41
import Derived.Test.YtgigkiocdiffjaaGreatE42
import Derived.Test.YtgigkiocdiffjaaGreatE23
import Derived.Test.YtgigkiocdiffjaaGreatE24
set_option maxRecDepth 100000
set_option maxHeartbeats 16000000
namespace Go.Proofs.YtgigkiocdiffjaaGreat
open Go.RowKit Veil
def LawW (w:World) (g:Nat) (cv dv sv rv nv:Value):Prop:=w.heap[g]?=some (.cells #[cv,dv,sv,rv,nv] 55 (0,0))
def pairV (p:Nat × Nat):List Value:=[.pointer (some ⟨p.1,0,none⟩),.pointer (some ⟨p.2,0,none⟩)]
theorem Tryz.infoPair:(Tryz.prog.info? 92).map (fun i=>(i.zero,i.size,i.bytes))=some (some (.agg #[.pointer none,.pointer none]),2,16):=by kernel_rfl
structure OpenIs (n:Nat) (f GR:Nat→Nat→Bool) (c:Cfg) (v:CfgV) (gw B:Nat) (L:List (Nat × Nat)) (cv dv sv rv0 nv:Value) (w w':World) (gd rd:Nat) (rv dv':Value):Prop where
 pbox:PBox w' gd n f rv GR (.slice none 0 0) (fun _=>0) nwZ
 rules:OwnL 163 2 ruleV w' w.heap.size rv c.rules
 rbox:RBox w' rd c v (.slice none 0 0) (.slice none 0 0)
 law:LawW w' gw cv dv' sv rv0 nv
 ds:OwnL 92 2 pairV w' B dv' (L++[(gd,rd)])
 gdl:w.heap.size≤gd
 rdl:w.heap.size≤rd
 gr:gd≠rd
 rgd:∀ b,rv.ownBlock=some b→b≠gd∧b≠rd
 dvb:∀ b,dv'.ownBlock=some b→dv.ownBlock=some b∨(w.heap.size≤b∧b≠gd∧b≠rd∧∀ b',rv.ownBlock=some b'→b≠b')
 only:Only (fun k=>k=gw∨dv.ownBlock=some k) w w'
theorem OpenedOk.done {c:Cfg} {v:CfgV} {gw B B1 n:Nat} {f GR:Nat→Nat→Bool} {L:List (Nat × Nat)} {cv dv sv rv0 nv rv:Value} {w w6 wB w8:World} {gd g8 cap8:Nat} (hbel6:Below w.heap.size w w6) (hbB:Below w6.heap.size w6 wB)
  (hpb:PBox wB gd n f rv GR (.slice none 0 0) (fun _=>0) nwZ) (hrl:OwnL 163 2 ruleV wB B1 rv c.rules) (hB1:w.heap.size≤B1)
  (hrd:wB.heap[w6.heap.size]?=some (.cells #[.int .i64 c.labels,.slice v.ea c.edges.length v.ec,.slice v.ra c.rules.length v.rc,.slice v.ga c.grants.length v.gc,.slice none 0 0,.slice none 0 0] 153 (0,0)))
  (hlw:LawW w8 gw cv dv sv rv0 nv) (hown:OwnL 92 2 pairV w8 B (.slice (some ⟨g8,0,none⟩) (L.length+1) cap8) (L++[(gd,w6.heap.size)])) (hg:wB.grownBy w8 dv.ownBlock) (hat:dv.ownBlock=some g8∨g8=w6.heap.size+2) (hgwl:gw<w.heap.size) (hdl:∀ b,dv.ownBlock=some b→b<w.heap.size) (hng:∀ b,dv.ownBlock=some b→b≠gw)
  (hrg:∀ b,rv.ownBlock=some b→b≠gd) (hrv6:∀ b,rv.ownBlock=some b→b<w6.heap.size) (hgd0:w.heap.size≤gd) (hgd6:gd<w6.heap.size) :
  OpenIs n f GR c v gw B L cv dv sv rv0 nv w (w8.setCell ⟨gw,1,none⟩ (.slice (some ⟨g8,0,none⟩) (L.length+1) cap8)) gd w6.heap.size rv (.slice (some ⟨g8,0,none⟩) (L.length+1) cap8):=by
 have h6:=hbel6.size
 have hsB:=hbB.size
 have key:∀ k,w.heap.size≤k→k<wB.heap.size→(w8.setCell ⟨gw,1,none⟩ (.slice (some ⟨g8,0,none⟩) (L.length+1) cap8)).heap[k]?=wB.heap[k]?:=fun k h1 h2=>(heap_setCell_other _ _ _ _ (show k≠gw by omega)).trans (hg.block k h2 (fun e=>by have:=hdl k e.symm;omega))
 have hrvb:∀ b,rv.ownBlock=some b→w.heap.size≤b:=fun b hb=>Nat.le_trans hB1 (hrl.lt hb).1
 refine⟨hpb.kept (key gd hgd0 (by omega)),?_,(key w6.heap.size h6 (lt_of_row hrd)).trans hrd,?_,?_,hgd0,h6,by omega,fun b hb=>⟨hrg b hb,by have:=hrv6 b hb;omega⟩,fun b hb=>?_,?_⟩
 ·refine⟨hrl.1,hrl.2.imp id ?_⟩
  rintro ⟨gg,cap,cur,h1,h2,h3,h4⟩
  exact⟨gg,cap,cur,h1,Nat.le_trans hB1 h2,(key gg (Nat.le_trans hB1 h2) (lt_of_row h3)).trans h3,h4⟩
 ·exact heap_setCell_same _ _ _ _ _ _ hlw
 ·refine hown.setOther (fun b hb=>?_)
  obtain rfl:g8=b:=by simpa [Value.ownBlock] using hb
  rcases hat with h|h
  ·exact hng _ h
  ·omega
 ·obtain rfl:g8=b:=by simpa [Value.ownBlock] using hb
  rcases hat with h|h
  ·exact Or.inl h
  ·exact Or.inr ⟨by omega,by omega,by omega,fun b' hb'=>by have:=hrv6 b' hb';omega⟩
 ·have o1:Only (fun k=>k=gw∨dv.ownBlock=some k) w wB:=(Only.of_below hbel6).trans (Only.of_below (F:=fun _=>False) hbB) (fun k h=>h.elim)
  have o2:Only (fun k=>k=gw∨dv.ownBlock=some k) w w8:=o1.trans (F':=fun k=>dv.ownBlock=some k) ⟨hg.os,hg.tape,hg.output,hg.size,fun k hk hn=>hg.block k hk (fun e=>hn e.symm)⟩ (fun k h=>Or.inl (Or.inr h))
  exact o2.setCell (Or.inl rfl)
theorem opened_ok (gw:Nat) (c:Cfg) (v:CfgV) (B:Nat) (L:List (Nat × Nat)) (cv dv sv rv0 nv:Value) (w:World) (hok:CfgOk c) (hat:CfgAt w c v) (hnil:CfgNil c v) (hk:CheckIs c 0) (hlw:LawW w gw cv dv sv rv0 nv) (hds:OwnL 92 2 pairV w B dv L) (hLl:L.length≤4000000000000) (hng:∀ b,dv.ownBlock=some b→b≠gw) (hBw:B≤w.heap.size) :
  Calls Tryz.prog 41 #[.pointer (some ⟨gw,0,none⟩),.agg (cfgCells c v)] w fun e w'=>e=.returned (.bool true)∧∃ gd rd rv dv',OpenIs c.n (tT c) (grF c) c v gw B L cv dv sv rv0 nv w w' gd rd rv dv':=by
 have HLENT:=hide (fun w' (hb:Below w.heap.size w w')=>lent_any c v w' hok (hat.below hb) hnil)
 have HREF:=hide (fun w' (hb:Below w.heap.size w w')=>rCheck_any c v w' hok (hat.below hb))
 have HWHO:=hide (fun g1 g2 g3 w' (hb:Below w.heap.size w w') hl=>whole_any c v g1 g2 g3 w' hok (hat.below hb) hl)
 have HSPO:=hide (fun g1 g2 g3 w' hl h12 h23=>spoil_only c v g1 g2 g3 w' hok hnil hl h12 h23)
 have HPRO:=hide (fun g1 g2 g3 w' (hl:LentAt w' c g1 g2 g3)=>vOpen_ok c (lentV c v g1 g2 g3) w' hok (hl.cfg hnil) (lent_cap hnil) hk)
 have HK:=hide hk
 have HLW:=hide hlw
 have HDS:=hide hds
 have hgwl:=lt_of_row hlw
 have HNG:=hide hng
 generalize hnn:c.n=n at *
 generalize hff:tT c=f at *
 generalize hgg:grF c=GR at *
 have HNN:=hide hnn
 have HFF:=hide hff
 have HGG:=hide hgg
 clear hnn hff hgg
 have HB0:=hide (below_box w (.cells (cfgCells c v) 31))
 have HX0:=hide (box_new w c v)
 have HB1:=hide HB0.out
 have HX1:=hide HX0.out
 have HSZ:=hide (show (w.alloc (.cells (cfgCells c v) 31)).heap.size=w.heap.size+1 by simp)
 clear hok hat hnil HB0 HX0 hk hlw hds hng
 unfold cfgCells at *
 go_enter Tryz.func41,Tryz.ntmps41
 go_wp2_with fail
 refine (HLENT.out _ HB1.out).mono ?_
 rintro e w1 ⟨g1,g2,g3,rfl,hl,h1,h12,h23,hb1⟩
 have h1':w.heap.size≤g1:=by rw [HSZ.out] at h1;omega
 have h1s:w.heap.size<g1:=by rw [HSZ.out] at h1;omega
 have HL:=hide hl
 have HPRO2:=hide (HPRO.out g1 g2 g3)
 have HWHO2:=hide (HWHO.out g1 g2 g3)
 have HSPO2:=hide (HSPO.out g1 g2 g3)
 have hbel1:=HB1.out.trans (hb1.mono (by rw [HSZ.out];omega))
 have HX2:=hide (HX1.out.below hb1 HX1.out.lt)
 have l3:=hl.grants.lt
 have HL3:=hide (And.intro (show g1<w1.heap.size by omega) (And.intro (show g2<w1.heap.size by omega) l3))
 clear HLENT HPRO HWHO HSPO hl hb1 h1 HX1 HB1 HSZ
 generalize lentV c v g1 g2 g3=v' at *
 have HB2:=hide (below_box w1 (.cells #[.int .i64 c.labels,.slice v'.ea c.edges.length v'.ec,.slice v'.ra c.rules.length v'.rc,.slice v'.ga c.grants.length v'.gc] 31))
 have HY2:=hide (box_new w1 c v')
 have HL2:=hide (HL.out.below HB2.out HL3.out.1 HL3.out.2.1 HL3.out.2.2)
 unfold cfgCells at *
 go_wp2_with fail
 refine (HPRO2.out _ HL2.out).mono ?_
 rintro e w3 ⟨gd,rv,rfl,hpb,hrl,hgd0,hrg,hb3⟩
 have HPB:=hide hpb
 have HRL:=hide hrl
 have hszb:w1.heap.size<(w1.alloc (.cells #[.int .i64 c.labels,.slice v'.ea c.edges.length v'.ec,.slice v'.ra c.rules.length v'.rc,.slice v'.ga c.grants.length v'.gc] 31)).heap.size:=by simp
 have hgd1:w1.heap.size<gd:=Nat.lt_of_lt_of_le hszb hgd0
 have HRG:=hide hrg
 have HRV1:=hide (show ∀ b,rv.ownBlock=some b→w1.heap.size<b from fun b hb=>Nat.lt_of_lt_of_le hszb (hrl.lt hb).1)
 have hszB:=hszb
 clear hpb hrl hrg hgd0 hszb
 have hb13:=HB2.out.trans (hb3.mono HB2.out.size)
 have hbel3:=hbel1.trans (hb13.mono hbel1.size)
 have HX3:=hide (HX2.out.below hb13 HX2.out.lt)
 have HY3:=hide (HY2.out.below hb3 HY2.out.lt)
 have HL4:=hide (HL.out.below hb13 HL3.out.1 HL3.out.2.1 HL3.out.2.2)
 have hsz3:=hb13.size
 clear hb3 HX2 HY2 HL2 HPRO2 hb13 HB2 HL
 obtain⟨q0,q1,q2,q3⟩:=HX3.out.cells
 go_wp2_with fail
 refine (HREF.out _ hbel3).mono ?_
 rintro e w4 ⟨y1,rfl,hc2,hb4⟩
 obtain rfl:=hc2.same HK.out
 have HPB4:=hide (HPB.out.below hb4 HPB.out.lt)
 have HRL4:=hide (HRL.out.below hb4)
 have hbel4:=hbel3.trans (hb4.mono hbel3.size)
 have HX4:=hide (HX3.out.below hb4 HX3.out.lt)
 have HY4:=hide (HY3.out.below hb4 HY3.out.lt)
 have HL5:=hide (HL4.out.below hb4 (Nat.lt_of_lt_of_le HL3.out.1 hsz3) (Nat.lt_of_lt_of_le HL3.out.2.1 hsz3) (Nat.lt_of_lt_of_le HL3.out.2.2 hsz3))
 have hsz4:=hb4.size
 clear q0 q1 q2 q3 hc2 hb4 HX3 HY3 HL4 HREF
 obtain⟨q0,q1,q2,q3⟩:=HX4.out.cells
 obtain⟨p0,p1,p2,p3⟩:=HY4.out.cells
 go_wp2_with fail
 refine (HWHO2.out _ hbel4 HL5.out).mono ?_
 rintro e w5 ⟨rfl,hb5⟩
 have HPB5:=hide (HPB4.out.below hb5 HPB4.out.lt)
 have HRL5:=hide (HRL4.out.below hb5)
 have HX5:=hide (HX4.out.below hb5 HX4.out.lt)
 have hbel5:=hbel4.trans (hb5.mono hbel4.size)
 have HY5:=hide (HY4.out.below hb5 HY4.out.lt)
 have hsz14:=Nat.le_trans hsz3 hsz4
 have HL6:=hide (HL5.out.below hb5 (Nat.lt_of_lt_of_le HL3.out.1 hsz14) (Nat.lt_of_lt_of_le HL3.out.2.1 hsz14) (Nat.lt_of_lt_of_le HL3.out.2.2 hsz14))
 clear q0 q1 q2 q3 p0 p1 p2 p3 hb5 HX4 HY4 HL5
 obtain⟨p0,p1,p2,p3⟩:=HY5.out.cells
 go_wp2_with fail
 refine (HSPO2.out _ HL6.out h12 h23).mono ?_
 rintro e w6 ⟨rfl,hon6⟩
 have hx1:w.heap.size<w1.heap.size:=by have:=HL3.out.1;omega
 have hF6:∀ k,lentF g1 g2 g3 k→w.heap.size≤k∧k<w1.heap.size:=fun k hk=>by rcases hk with rfl|rfl|rfl <;> (have:=HL3.out;omega)
 have hbel6:Below w.heap.size w w6:=hbel5.trans (hon6.below (fun k hk=>(hF6 k hk).1) hbel5.size)
 have HPB6:=hide (HPB5.out.kept (hon6.block gd HPB5.out.lt (fun h=>by have:=hF6 gd h;omega)))
 have HRL6:=hide (HRL5.out.only hon6 (fun b hb h=>by have:=HRV1.out b hb;have:=hF6 b h;omega))
 have HX6:Hid (BoxAt w6 w.heap.size c v):=(hon6.block w.heap.size HX5.out.lt (fun h=>by rcases h with h|h|h <;> omega)).trans HX5.out
 have HLW6:Hid (LawW w6 gw cv dv sv rv0 nv):=Below.row hbel6 HLW.out hgwl
 have HDS6:=hide (HDS.out.below hbel6)
 have HON6:=hide hon6
 have hgd6:=HPB6.out.lt
 have hwx6:=HX6.out.lt
 have d6:w6.cell? ⟨gw,1,none⟩=some dv:=by rw [cell_of_row _ _ _ _ _ _ HLW6.out];rfl
 have f6:w6.frozen? ⟨gw,1,none⟩=false:=frozen_of_row _ _ _ _ _ HLW6.out
 obtain⟨dao,dcap,hdvv⟩:=HDS.out.shape
 subst hdvv
 clear p0 p1 p2 p3 hon6 hF6
 obtain⟨q0,q1,q2,q3⟩:=HX6.out.cells
 have hbA:Below w6.heap.size w6 (w6.drew.alloc (.cells #[.int .i64 c.labels,.slice v.ea c.edges.length v.ec,.slice v.ra c.rules.length v.rc,.slice v.ga c.grants.length v.gc,.slice none 0 0,.slice none 0 0] 153)):=(below_drew w6).alloc (Nat.le_refl _) _
 have hbB:Below w6.heap.size w6 ((w6.drew.alloc (.cells #[.int .i64 c.labels,.slice v.ea c.edges.length v.ec,.slice v.ra c.rules.length v.rc,.slice v.ga c.grants.length v.gc,.slice none 0 0,.slice none 0 0] 153)).alloc (.cells #[.pointer (some ⟨gd,0,none⟩),.pointer (some ⟨w6.heap.size,0,none⟩)] 92)):=hbA.alloc hbA.size _
 have HRDB:Hid (((w6.drew.alloc (.cells #[.int .i64 c.labels,.slice v.ea c.edges.length v.ec,.slice v.ra c.rules.length v.rc,.slice v.ga c.grants.length v.gc,.slice none 0 0,.slice none 0 0] 153)).alloc (.cells #[.pointer (some ⟨gd,0,none⟩),.pointer (some ⟨w6.heap.size,0,none⟩)] 92)).heap[w6.heap.size]?=some (.cells #[.int .i64 c.labels,.slice v.ea c.edges.length v.ec,.slice v.ra c.rules.length v.rc,.slice v.ga c.grants.length v.gc,.slice none 0 0,.slice none 0 0] 153 (0,0))):=heap_alloc2_old w6.drew _ _
 have HNPB:Hid (((w6.drew.alloc (.cells #[.int .i64 c.labels,.slice v.ea c.edges.length v.ec,.slice v.ra c.rules.length v.rc,.slice v.ga c.grants.length v.gc,.slice none 0 0,.slice none 0 0] 153)).alloc (.cells #[.pointer (some ⟨gd,0,none⟩),.pointer (some ⟨w6.heap.size,0,none⟩)] 92)).heap[w6.heap.size+1]?=some (.cells #[.pointer (some ⟨gd,0,none⟩),.pointer (some ⟨w6.heap.size,0,none⟩)] 92 (0,0))):=heap_alloc2_new w6.drew _ _
 have HDSB:=hide (HDS6.out.below hbB)
 have HPBB:=hide (HPB6.out.below hbB hgd6)
 have HRLB:=hide (HRL6.out.below hbB)
 have HLWB:Hid (LawW ((w6.drew.alloc (.cells #[.int .i64 c.labels,.slice v.ea c.edges.length v.ec,.slice v.ra c.rules.length v.rc,.slice v.ga c.grants.length v.gc,.slice none 0 0,.slice none 0 0] 153)).alloc (.cells #[.pointer (some ⟨gd,0,none⟩),.pointer (some ⟨w6.heap.size,0,none⟩)] 92)) gw cv (.slice dao L.length dcap) sv rv0 nv):=Below.row hbB HLW6.out (lt_of_row HLW6.out)
 have hXA:BoxAt (w6.drew.alloc (.cells #[.int .i64 c.labels,.slice v.ea c.edges.length v.ec,.slice v.ra c.rules.length v.rc,.slice v.ga c.grants.length v.gc,.slice none 0 0,.slice none 0 0] 153)) w.heap.size c v:=HX6.out.below hbA hwx6
 obtain⟨x0,x1,x2,x3⟩:=hXA.cells
 have hXB:BoxAt ((w6.drew.alloc (.cells #[.int .i64 c.labels,.slice v.ea c.edges.length v.ec,.slice v.ra c.rules.length v.rc,.slice v.ga c.grants.length v.gc,.slice none 0 0,.slice none 0 0] 153)).alloc (.cells #[.pointer (some ⟨gd,0,none⟩),.pointer (some ⟨w6.heap.size,0,none⟩)] 92)) w.heap.size c v:=HX6.out.below hbB hwx6
 obtain⟨y0,y1,y2,y3⟩:=hXB.cells
 have HXB:=hide hXB
 have d7:(w6.drew.alloc (.cells #[.int .i64 c.labels,.slice v.ea c.edges.length v.ec,.slice v.ra c.rules.length v.rc,.slice v.ga c.grants.length v.gc,.slice none 0 0,.slice none 0 0] 153)).cell? ⟨gw,1,none⟩=some (.slice dao L.length dcap):=(hbA.cell (p:=⟨gw,1,none⟩) (lt_of_row HLW6.out)).trans d6
 have d7':(w6.alloc (.cells #[.int .i64 c.labels,.slice v.ea c.edges.length v.ec,.slice v.ra c.rules.length v.rc,.slice v.ga c.grants.length v.gc,.slice none 0 0,.slice none 0 0] 153)).cell? ⟨gw,1,none⟩=some (.slice dao L.length dcap):=d7
 have d7b:((w6.alloc (.cells #[.int .i64 c.labels,.slice v.ea c.edges.length v.ec,.slice v.ra c.rules.length v.rc,.slice v.ga c.grants.length v.gc,.slice none 0 0,.slice none 0 0] 153)).alloc (.cells #[.pointer (some ⟨gd,0,none⟩),.pointer (some ⟨w6.heap.size,0,none⟩)] 92)).cell? ⟨gw,1,none⟩=some (.slice dao L.length dcap):=(hbB.cell (p:=⟨gw,1,none⟩) (lt_of_row HLW6.out)).trans d6
 clear hXA hXB
 go_wp2_with fail
 refine wp_region_held_drew (S:=(fun w'=>w'.cell? ⟨w.heap.size,0,none⟩=some (.int .i64 c.labels)∧w'.cell? ⟨w.heap.size,1,none⟩=some (.slice v.ea c.edges.length v.ec)∧w'.cell? ⟨w.heap.size,2,none⟩=some (.slice v.ra c.rules.length v.rc)∧w'.cell? ⟨w.heap.size,3,none⟩=some (.slice v.ga c.grants.length v.gc))) (by kernel_rfl) ?_ (fun hHeld=>?_)
 ·exact⟨q0,q1,q2,q3⟩
 refine tV 0 40 ?_
 (try simp only [Act.put,lA,lZ,lS])
 refine tV 1 41 ?_
 (try simp only [Act.put,lA,lZ,lS])
 refine tV 2 42 ?_
 (try simp only [Act.put,lA,lZ,lS])
 refine tV 3 43 ?_
 (try simp only [Act.put,lA,lZ,lS])
 refine tV 5 45 ?_
 (try simp only [Act.put,lA,lZ,lS])
 refine tV 6 46 ?_
 (try simp only [Act.put,lA,lZ,lS])
 refine tV 7 47 ?_
 (try simp only [Act.put,lA,lZ,lS])
 refine wpAnyH_ready (rs:=[4,8]) (by kernel_rfl) (by simp) ?_
 refine AllReadyH.cons rfl (fun K hK=>?_) (AllReadyH.cons rfl (fun K hK=>?_) AllReadyH.nil)
 ·go_simp
  refine hK.out _ _ ?_ (fun hHeld=>?_)
  ·exact⟨q0,q1,q2,q3⟩
  clear hK K
  refine wpAnyH_ready (rs:=[8]) (by kernel_rfl) (by simp) ?_
  refine AllReadyH.cons rfl (fun K hK=>?_) AllReadyH.nil
  go_simp
  refine hK.out _ _ ?_ (fun hHeld=>?_)
  ·exact⟨x0,x1,x2,x3⟩
  clear hK K
  refine tV 9 49 ?_
  (try simp only [Act.put,lA,lZ,lS])
  refine wpAnyH_ready (rs:=[10]) (by kernel_rfl) (by simp) ?_
  refine AllReadyH.cons rfl (fun K hK=>?_) AllReadyH.nil
  go_simp
  refine hK.out _ _ ?_ (fun hHeld=>?_)
  ·exact⟨y0,y1,y2,y3⟩
  clear hK K
  refine wpAnyH_ready (rs:=[11]) (by kernel_rfl) (by simp) ?_
  refine AllReadyH.cons rfl (fun K hK=>?_) AllReadyH.nil
  refine step_push rfl (.tmp 44) (.tmp 50) 50 rfl (.agg #[.pointer none,.pointer none]) 16 Tryz.underlying50 Tryz.infoPair rfl (by decide) rfl HDSB.out (w6.heap.size+1) 1 (gd,w6.heap.size) rfl 92 (0,0) HNPB.out rfl (by intro u hu;simp [pairV] at hu;rcases hu with rfl|rfl <;> rfl) (by omega) (by decide) (Nat.le_trans hBw (Nat.le_trans hbel6.size hbB.size)) (w6.heap.size+2) (by simp) ?_
  intro g8 cap8 w8 hown8 hgrow8 hat8 hlt8
  have hne8:∀ b,(Value.slice dao L.length dcap).ownBlock=some b→b<w.heap.size:=fun b hb=>(HDS.out.lt hb).2
  have HX8:Hid (BoxAt w8 w.heap.size c v):=(hgrow8.block w.heap.size (Nat.lt_of_lt_of_le hwx6 hbB.size) (fun e=>by have:=hne8 w.heap.size e.symm;omega)).trans HXB.out
  obtain⟨z0,z1,z2,z3⟩:=HX8.out.cells
  have HLW8:Hid (LawW w8 gw cv (.slice dao L.length dcap) sv rv0 nv):=(hgrow8.block gw (lt_of_row HLWB.out) (fun e=>HNG.out gw e.symm rfl)).trans HLWB.out
  have d8:w8.cell? ⟨gw,1,none⟩=some (.slice dao L.length dcap):=by rw [cell_of_row _ _ _ _ _ _ HLW8.out];rfl
  have f8:w8.frozen? ⟨gw,1,none⟩=false:=frozen_of_row _ _ _ _ _ HLW8.out
  refine hK.out _ _ ?_ (fun hHeld=>?_)
  ·exact⟨z0,z1,z2,z3⟩
  clear hK K
  refine tV 12 52 ?_
  (try simp only [Act.put,List.setIfInBounds_toArray])
  refine tV 13 53 ?_
  (try simp only [Act.put])
  have HX9:Hid (BoxAt (w8.setCell ⟨gw,1,none⟩ (.slice (some ⟨g8,0,none⟩) (L.length+1) cap8)) w.heap.size c v):=row_other HX8.out (by omega)
  obtain⟨v0,v1,v2,v3⟩:=HX9.out.cells
  refine wpAnyH_ready (rs:=[14]) (by kernel_rfl) (by simp) ?_
  refine AllReadyH.cons rfl (fun K hK=>?_) AllReadyH.nil
  go_simp
  refine hK.out _ _ ?_ (fun hHeld=>?_)
  ·exact⟨v0,v1,v2,v3⟩
  clear hK K
  refine wpAnyH_done (by kernel_rfl) ?_ _
  have HRES:=hide (OpenedOk.done (cv:=cv) (sv:=sv) (rv0:=rv0) (nv:=nv) hbel6 hbB HPBB.out HRLB.out (Nat.le_trans (Nat.le_of_lt hx1) (Nat.le_of_lt hszB)) HRDB.out HLW8.out hown8 hgrow8 hat8 hgwl hne8 HNG.out HRG.out (fun b hb=>(HRL6.out.lt hb).2) (by omega) hgd6)
  clear d6 d7 d7' d7b d8 f6 f8 q0 q1 q2 q3 x0 x1 x2 x3 y0 y1 y2 y3 z0 z1 z2 z3 v0 v1 v2 v3
  go_wp2
  go_ret
  exact⟨rfl,gd,w6.heap.size,rv,_,HRES.out⟩
 ·go_simp
  refine hK.out _ _ ?_ (fun hHeld=>?_)
  ·exact⟨x0,x1,x2,x3⟩
  clear hK K
  refine tV 9 49 ?_
  (try simp only [Act.put,lA,lZ,lS])
  refine wpAnyH_ready (rs:=[4,10]) (by kernel_rfl) (by simp) ?_
  refine AllReadyH.cons rfl (fun K hK=>?_) (AllReadyH.cons rfl (fun K hK=>?_) AllReadyH.nil)
  ·go_simp
   refine hK.out _ _ ?_ (fun hHeld=>?_)
   ·exact⟨x0,x1,x2,x3⟩
   clear hK K
   refine wpAnyH_ready (rs:=[10]) (by kernel_rfl) (by simp) ?_
   refine AllReadyH.cons rfl (fun K hK=>?_) AllReadyH.nil
   go_simp
   refine hK.out _ _ ?_ (fun hHeld=>?_)
   ·exact⟨y0,y1,y2,y3⟩
   clear hK K
   refine wpAnyH_ready (rs:=[11]) (by kernel_rfl) (by simp) ?_
   refine AllReadyH.cons rfl (fun K hK=>?_) AllReadyH.nil
   refine step_push rfl (.tmp 44) (.tmp 50) 50 rfl (.agg #[.pointer none,.pointer none]) 16 Tryz.underlying50 Tryz.infoPair rfl (by decide) rfl HDSB.out (w6.heap.size+1) 1 (gd,w6.heap.size) rfl 92 (0,0) HNPB.out rfl (by intro u hu;simp [pairV] at hu;rcases hu with rfl|rfl <;> rfl) (by omega) (by decide) (Nat.le_trans hBw (Nat.le_trans hbel6.size hbB.size)) (w6.heap.size+2) (by simp) ?_
   intro g8 cap8 w8 hown8 hgrow8 hat8 hlt8
   have hne8:∀ b,(Value.slice dao L.length dcap).ownBlock=some b→b<w.heap.size:=fun b hb=>(HDS.out.lt hb).2
   have HX8:Hid (BoxAt w8 w.heap.size c v):=(hgrow8.block w.heap.size (Nat.lt_of_lt_of_le hwx6 hbB.size) (fun e=>by have:=hne8 w.heap.size e.symm;omega)).trans HXB.out
   obtain⟨z0,z1,z2,z3⟩:=HX8.out.cells
   have HLW8:Hid (LawW w8 gw cv (.slice dao L.length dcap) sv rv0 nv):=(hgrow8.block gw (lt_of_row HLWB.out) (fun e=>HNG.out gw e.symm rfl)).trans HLWB.out
   have d8:w8.cell? ⟨gw,1,none⟩=some (.slice dao L.length dcap):=by rw [cell_of_row _ _ _ _ _ _ HLW8.out];rfl
   have f8:w8.frozen? ⟨gw,1,none⟩=false:=frozen_of_row _ _ _ _ _ HLW8.out
   refine hK.out _ _ ?_ (fun hHeld=>?_)
   ·exact⟨z0,z1,z2,z3⟩
   clear hK K
   refine tV 12 52 ?_
   (try simp only [Act.put,List.setIfInBounds_toArray])
   refine tV 13 53 ?_
   (try simp only [Act.put])
   have HX9:Hid (BoxAt (w8.setCell ⟨gw,1,none⟩ (.slice (some ⟨g8,0,none⟩) (L.length+1) cap8)) w.heap.size c v):=row_other HX8.out (by omega)
   obtain⟨v0,v1,v2,v3⟩:=HX9.out.cells
   refine wpAnyH_ready (rs:=[14]) (by kernel_rfl) (by simp) ?_
   refine AllReadyH.cons rfl (fun K hK=>?_) AllReadyH.nil
   go_simp
   refine hK.out _ _ ?_ (fun hHeld=>?_)
   ·exact⟨v0,v1,v2,v3⟩
   clear hK K
   refine wpAnyH_done (by kernel_rfl) ?_ _
   have HRES:=hide (OpenedOk.done (cv:=cv) (sv:=sv) (rv0:=rv0) (nv:=nv) hbel6 hbB HPBB.out HRLB.out (Nat.le_trans (Nat.le_of_lt hx1) (Nat.le_of_lt hszB)) HRDB.out HLW8.out hown8 hgrow8 hat8 hgwl hne8 HNG.out HRG.out (fun b hb=>(HRL6.out.lt hb).2) (by omega) hgd6)
   clear d6 d7 d7' d7b d8 f6 f8 q0 q1 q2 q3 x0 x1 x2 x3 y0 y1 y2 y3 z0 z1 z2 z3 v0 v1 v2 v3
   go_wp2
   go_ret
   exact⟨rfl,gd,w6.heap.size,rv,_,HRES.out⟩
  ·go_simp
   refine hK.out _ _ ?_ (fun hHeld=>?_)
   ·exact⟨y0,y1,y2,y3⟩
   clear hK K
   refine wpAnyH_ready (rs:=[4]) (by kernel_rfl) (by simp) ?_
   refine AllReadyH.cons rfl (fun K hK=>?_) AllReadyH.nil
   go_simp
   refine hK.out _ _ ?_ (fun hHeld=>?_)
   ·exact⟨y0,y1,y2,y3⟩
   clear hK K
   refine wpAnyH_ready (rs:=[11]) (by kernel_rfl) (by simp) ?_
   refine AllReadyH.cons rfl (fun K hK=>?_) AllReadyH.nil
   refine step_push rfl (.tmp 44) (.tmp 50) 50 rfl (.agg #[.pointer none,.pointer none]) 16 Tryz.underlying50 Tryz.infoPair rfl (by decide) rfl HDSB.out (w6.heap.size+1) 1 (gd,w6.heap.size) rfl 92 (0,0) HNPB.out rfl (by intro u hu;simp [pairV] at hu;rcases hu with rfl|rfl <;> rfl) (by omega) (by decide) (Nat.le_trans hBw (Nat.le_trans hbel6.size hbB.size)) (w6.heap.size+2) (by simp) ?_
   intro g8 cap8 w8 hown8 hgrow8 hat8 hlt8
   have hne8:∀ b,(Value.slice dao L.length dcap).ownBlock=some b→b<w.heap.size:=fun b hb=>(HDS.out.lt hb).2
   have HX8:Hid (BoxAt w8 w.heap.size c v):=(hgrow8.block w.heap.size (Nat.lt_of_lt_of_le hwx6 hbB.size) (fun e=>by have:=hne8 w.heap.size e.symm;omega)).trans HXB.out
   obtain⟨z0,z1,z2,z3⟩:=HX8.out.cells
   have HLW8:Hid (LawW w8 gw cv (.slice dao L.length dcap) sv rv0 nv):=(hgrow8.block gw (lt_of_row HLWB.out) (fun e=>HNG.out gw e.symm rfl)).trans HLWB.out
   have d8:w8.cell? ⟨gw,1,none⟩=some (.slice dao L.length dcap):=by rw [cell_of_row _ _ _ _ _ _ HLW8.out];rfl
   have f8:w8.frozen? ⟨gw,1,none⟩=false:=frozen_of_row _ _ _ _ _ HLW8.out
   refine hK.out _ _ ?_ (fun hHeld=>?_)
   ·exact⟨z0,z1,z2,z3⟩
   clear hK K
   refine tV 12 52 ?_
   (try simp only [Act.put,List.setIfInBounds_toArray])
   refine tV 13 53 ?_
   (try simp only [Act.put])
   have HX9:Hid (BoxAt (w8.setCell ⟨gw,1,none⟩ (.slice (some ⟨g8,0,none⟩) (L.length+1) cap8)) w.heap.size c v):=row_other HX8.out (by omega)
   obtain⟨v0,v1,v2,v3⟩:=HX9.out.cells
   refine wpAnyH_ready (rs:=[14]) (by kernel_rfl) (by simp) ?_
   refine AllReadyH.cons rfl (fun K hK=>?_) AllReadyH.nil
   go_simp
   refine hK.out _ _ ?_ (fun hHeld=>?_)
   ·exact⟨v0,v1,v2,v3⟩
   clear hK K
   refine wpAnyH_done (by kernel_rfl) ?_ _
   have HRES:=hide (OpenedOk.done (cv:=cv) (sv:=sv) (rv0:=rv0) (nv:=nv) hbel6 hbB HPBB.out HRLB.out (Nat.le_trans (Nat.le_of_lt hx1) (Nat.le_of_lt hszB)) HRDB.out HLW8.out hown8 hgrow8 hat8 hgwl hne8 HNG.out HRG.out (fun b hb=>(HRL6.out.lt hb).2) (by omega) hgd6)
   clear d6 d7 d7' d7b d8 f6 f8 q0 q1 q2 q3 x0 x1 x2 x3 y0 y1 y2 y3 z0 z1 z2 z3 v0 v1 v2 v3
   go_wp2
   go_ret
   exact⟨rfl,gd,w6.heap.size,rv,_,HRES.out⟩
end Go.Proofs.YtgigkiocdiffjaaGreat
namespace Go.Proofs.YtgigkiocdiffjaaGreat
open Go.RowKit Veil
theorem Tryz.infoSpanss:(Tryz.prog.info? 69).map (fun i=>(i.zero,i.size,i.bytes))=some (some (.slice none 0 0),1,24):=by kernel_rfl
theorem Tryz.infoRecss:(Tryz.prog.info? 75).map (fun i=>(i.zero,i.size,i.bytes))=some (some (.slice none 0 0),1,24):=by kernel_rfl
theorem Tryz.infoNotss:(Tryz.prog.info? 79).map (fun i=>(i.zero,i.size,i.bytes))=some (some (.slice none 0 0),1,24):=by kernel_rfl
theorem law_next2 {w9 w10:World} {g:Nat} {cv dv sv rv nv v9:Value} {o:Obj} (h:w9.heap[g]?=some (.cells #[cv,dv,sv,rv,nv] 55 (0,0))) (hne:∀ b,v9.ownBlock=some b→b≠g) (hg:((w9.setCell ⟨g,2,none⟩ v9).alloc o).grownBy w10 v9.ownBlock):w10.heap[g]?=some (.cells #[cv,dv,v9,rv,nv] 55 (0,0)):=by
 have hl:=lt_of_row h
 have h1:(w9.setCell ⟨g,2,none⟩ v9).heap[g]?=some (.cells #[cv,dv,v9,rv,nv] 55 (0,0)):=by
  rw [Go.heap_setCell_same _ _ _ _ _ _ h];rfl
 rw [hg.block g (by simp [World.setCell];omega) (fun e=>hne g e.symm rfl),Go.heap_alloc_old _ _ (by simp [World.setCell];omega)]
 exact h1
theorem law_next3 {w9 w10:World} {g:Nat} {cv dv qv sv nv v9:Value} {o:Obj} (h:w9.heap[g]?=some (.cells #[cv,dv,qv,sv,nv] 55 (0,0))) (hne:∀ b,v9.ownBlock=some b→b≠g) (hg:((w9.setCell ⟨g,3,none⟩ v9).alloc o).grownBy w10 v9.ownBlock):w10.heap[g]?=some (.cells #[cv,dv,qv,v9,nv] 55 (0,0)):=by
 have hl:=lt_of_row h
 have h1:(w9.setCell ⟨g,3,none⟩ v9).heap[g]?=some (.cells #[cv,dv,qv,v9,nv] 55 (0,0)):=by
  rw [Go.heap_setCell_same _ _ _ _ _ _ h];rfl
 rw [hg.block g (by simp [World.setCell];omega) (fun e=>hne g e.symm rfl),Go.heap_alloc_old _ _ (by simp [World.setCell];omega)]
 exact h1
theorem law_next4 {w9 w10:World} {g:Nat} {cv dv qv rv sv v9:Value} {o:Obj} (h:w9.heap[g]?=some (.cells #[cv,dv,qv,rv,sv] 55 (0,0))) (hne:∀ b,v9.ownBlock=some b→b≠g) (hg:((w9.setCell ⟨g,4,none⟩ v9).alloc o).grownBy w10 v9.ownBlock):w10.heap[g]?=some (.cells #[cv,dv,qv,rv,v9] 55 (0,0)):=by
 have hl:=lt_of_row h
 have h1:(w9.setCell ⟨g,4,none⟩ v9).heap[g]?=some (.cells #[cv,dv,qv,rv,v9] 55 (0,0)):=by
  rw [Go.heap_setCell_same _ _ _ _ _ _ h];rfl
 rw [hg.block g (by simp [World.setCell];omega) (fun e=>hne g e.symm rfl),Go.heap_alloc_old _ _ (by simp [World.setCell];omega)]
 exact h1
theorem alloc_new_set (w:World) (a:Addr) (v:Value) (o:Obj):((w.setCell a v).alloc o).heap[w.heap.size]?=some o:=by
 have h:=Go.heap_alloc_new (w.setCell a v) o
 have e:(w.setCell a v).heap.size=w.heap.size:=by simp [World.setCell]
 rw [e] at h
 exact h
structure ListIs {α:Type} (e eL:TypeId) (sz:Nat) (fv:α→List Value) (mk:Nat→α) (row:Value→Array Value) (w w':World) (B g:Nat) (sv:Value) (S:List Value) (lv:Value) (n:Nat) (sv' v1 v2:Value):Prop where
 law:w'.heap[g]?=some (.cells (row sv') 55 (0,0))
 lists:OwnL eL 1 oneV w' B sv' (S++[lv]++[v1]++[v2])
 l0:OwnL e sz fv w' B lv (List.replicate n (mk S.length))
 l1:OwnL e sz fv w' B v1 (List.replicate (n+1) (mk S.length))
 l2:OwnL e sz fv w' B v2 (List.replicate (n+3) (mk S.length))
 b1:∀ b,v1.ownBlock=some b→lv.ownBlock=some b∨w.heap.size≤b
 b2:∀ b,v2.ownBlock=some b→lv.ownBlock=some b∨w.heap.size≤b
 bs:∀ b,sv'.ownBlock=some b→sv.ownBlock=some b∨w.heap.size≤b
 ap:∀ b,sv'.ownBlock=some b→lv.ownBlock≠some b∧v1.ownBlock≠some b∧v2.ownBlock≠some b
 only:Only (fun b=>lv.ownBlock=some b∨b=g∨sv.ownBlock=some b) w w'
theorem only_row {w w':World} {row:Option Nat} (h:w.grownBy w' row):Only (fun b=>row=some b) w w':=⟨h.os,h.tape,h.output,h.size,fun k hk hn=>h.block k hk (fun e=>hn e.symm)⟩
theorem only_grown {w w':World} {gl:Nat} (h:w.grownBy w' (some gl)):Only (fun b=>b=gl) w w':=⟨h.os,h.tape,h.output,h.size,fun k hk hn=>h.block k hk (by simpa using hn)⟩
theorem only_all {w w' w'':World} {gl:Nat} (h:Only (fun b=>b=gl) w w') (k:Only (fun b=>b=gl) w' w''):Only (fun b=>b=gl) w w'':=h.trans k (fun _ e=>Or.inl e)
theorem OwnL.thawed {α:Type} {e:TypeId} {sz:Nat} {f:α→List Value} {w:World} {B:Nat} {v:Value} {l:List α} (h:OwnL e sz f w B v l) {g:Nat} (hg:v.ownBlock=some g) (i:Nat):w.frozen? ⟨g,i,none⟩=false:=by
 rcases h.2 with⟨h1,h2⟩|⟨g',cap',cur,h1,h2,h3,h4⟩
 ·rw [h1] at hg;cases hg
 ·rw [h1] at hg
  cases hg
  exact frozen_of_row _ _ _ _ _ h3
theorem mark_set {α:Type} (m:α) (L:List α) (k:Nat) (h:k<L.length):(List.replicate k m++L.drop k).set k m=List.replicate (k+1) m++L.drop (k+1):=by
 rw [List.set_append_right _ _ (by simp),List.length_replicate,Nat.sub_self,List.drop_eq_getElem_cons h,List.set_cons_zero,List.replicate_succ',List.append_assoc]
 rfl
theorem only_none {w w':World} (h:w.grownBy w' none):Only (fun _=>False) w w':=⟨h.os,h.tape,h.output,h.size,fun k hk _=>h.block k hk (by simp)⟩
theorem only_no {w w' w'':World} (h:Only (fun _=>False) w w') (k:Only (fun _=>False) w' w''):Only (fun _=>False) w w'':=h.trans k (fun _ e=>Or.inl e)
end Go.Proofs.YtgigkiocdiffjaaGreat
