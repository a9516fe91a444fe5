import Derived.Test.YtgigkiocdiffjabU25
import Derived.Test.YtgigkiocdiffjabU17
import Derived.Test.YtgigkiocdiffjabU11
import Derived.Test.YtgigkiocdiffjabU27
set_option maxRecDepth 100000
set_option maxHeartbeats 16000000
namespace Go.Proofs.Ytgigkiocdiffjab
open Go.RowKit Veil
theorem at_dst (d:Tmp) {P:Program} {ops:Array Oper} {rest:List Oper} {act:Act} {w:World} {Q:Exit→Act→World→Prop} {op:Op} {ty:TypeId} {pos:String} {af:Array Edge} {gd:Option (Nat × Bool)} (h:wpList P ops Q (⟨some d,op,ty,pos,af,gd⟩ :: rest) act w):wpList P ops Q (⟨some d,op,ty,pos,af,gd⟩ :: rest) act w:=h
theorem own_src2 {α:Type} {e:TypeId} {sz:Nat} {f:α→List Value} {w:World} {B:Nat} {ao:Option Addr} {n cap:Nat} {l:List α} (h:OwnL e sz f w B (.slice ao n cap) l):(ao=none→n=0∧cap=0)∧∀ a,ao=some a→∀ j u,(l.flatMap f)[j]?=some u→w.cell? (a.add j)=some u:=by
 refine⟨fun hn=>?_,fun a ha j u hu=>?_⟩
 ·rcases h.2 with⟨h1,_⟩|⟨g,cap',cur,h1,_⟩
  ·simp only [Value.slice.injEq] at h1
   exact⟨h1.2.1,h1.2.2⟩
  ·simp only [Value.slice.injEq] at h1
   rw [hn] at h1;cases h1.1
 ·rcases h.2 with⟨h1,_⟩|⟨g,cap',cur,h1,_⟩
  ·simp only [Value.slice.injEq] at h1
   rw [ha] at h1;cases h1.1
  ·simp only [Value.slice.injEq] at h1
   have hag:a=⟨g,0,none⟩:=by rw [ha] at h1;exact Option.some.inj h1.1
   subst hag
   exact World.ownsRow.cells h (by rw [ha];rfl) j u hu
theorem lgOf_any {B g:Nat} {w:World} {c:Cfg} {row:List RC} {I:Nat→Nat} {L:Nat→List Rec} {V:Nat→Nat} {W:Nat→List No} {p:PV} (hdoc:PDocO B w g c row I L V W p) (hn6:c.n≤6) (lv:Nat) (hlv:lv<c.n) (hlen:(L lv).length≤8) :
  Calls Try.prog 59 #[.pointer (some ⟨g,118,none⟩),.int .i64 lv] w fun e w'=>∃ vl,e=.returned vl∧OwnL 107 3 recV w' w.heap.size vl (L lv)∧Below w.heap.size w w':=by
 have HH:=hide (fun (w':World)=>lgHas_any lv w' (by omega))
 have c0:=hdoc.box.log lv (by omega)
 have HO:=hide (hdoc.logs lv hlv)
 obtain⟨ao,cap,hvv⟩:=(hdoc.logs lv hlv).shape
 rw [hvv] at c0 HO
 obtain⟨hs1,hs2⟩:=own_src2 HO.out
 have HS1:=hide hs1
 have HS2:=hide hs2
 have hli:(lv:Int)<6:=by omega
 generalize L lv=l at *
 clear hdoc hlv hvv hs1 hs2
 go_enter Try.func59,Try.ntmps59
 go_wp2_with fail
 refine (HH.out _).mono ?_
 rintro e w1 ⟨rfl,rfl⟩
 go_wp2_with ((with_reducible (refine at_dst 15 ?_));(refine wpList_pushes rfl (.tmp 8) (.tmp 14) 54 rfl (.agg #[.int .i64 0,.int .i64 0,.int .i64 0]) 24 Try.underlying54 Try.infoRecord2 rfl (by decide) rfl (OwnL.nil 107 3 recV w w.heap.size) ao l.length cap l rfl rfl HS1.out HS2.out recV_len (fun a _ u hu=>by simp [recV] at hu;rcases hu with rfl|rfl|rfl <;> rfl) (by simp;omega) (by decide) (Nat.le_refl _) ?_);intro v4 w4 hown4 hgrow4 hat4)
 have hb4:Below w.heap.size w w4:=below_of_grown hgrow4 (fun k hk=>by cases hk) (Nat.le_refl _)
 have HO4:=hide (show OwnL 107 3 recV w4 w.heap.size v4 l by simpa using hown4)
 obtain⟨ao4,cap4,hv4⟩:=HO4.out.shape
 subst hv4
 clear hown4 hgrow4 hat4
 go_wp2
 go_ret
 exact⟨_,rfl,HO4.out,hb4⟩
theorem nwPoll_any {B g:Nat} {w:World} {c:Cfg} {row:List RC} {I:Nat→Nat} {L:Nat→List Rec} {V:Nat→Nat} {W:Nat→List No} {p:PV} (hdoc:PDocO B w g c row I L V W p) (hn6:c.n≤6) (lv:Nat) (hlv:lv<c.n) (hlen:(W lv).length≤4) :
  Calls Try.prog 60 #[.pointer (some ⟨g,124,none⟩),.int .i64 lv] w fun e w'=>∃ vl p',e=.returned vl∧OwnL 129 2 noV w' w.heap.size vl (W lv)∧PDocO B w' g c row I L V (updF W lv []) p'∧PStep c.n g p w p' w'∧∀ a b,pblk c.n g p' a=some b→vl.ownBlock=some b→False:=by
 have i0:=hdoc.box.isN
 have a0:=hdoc.box.atN
 have HQ:=hide (has_any c.n (tT c) lv w)
 rw [okL_lt hlv] at HQ
 have HD:=hide hdoc
 obtain⟨ao,cap,hvv⟩:=(hdoc.waits lv hlv).shape
 have HVV:=hide hvv
 have hli:(lv:Int)<6:=by omega
 have hl6:lv<6:=by omega
 have HLV:=hide hlv
 have hgl:=hdoc.box.lt
 clear hdoc hlv hvv
 go_enter Try.func60,Try.ntmps60
 go_wp2_with fail
 refine (HQ.out).mono ?_
 rintro e w1 ⟨rfl,hb1⟩
 have HD1:=hide (HD.out.below hb1)
 have c1:=HD1.out.box.wait lv hl6
 have HO:=hide (HD1.out.waits lv HLV.out)
 rw [HVV.out] at c1 HO
 obtain⟨hs1,hs2⟩:=own_src2 HO.out
 have HS1:=hide hs1
 have HS2:=hide hs2
 have fz:=HD1.out.box.frozen (167+lv)
 have hg1:=HD1.out.box.lt
 generalize hWl:W lv=l at *
 have HWL:=hide hWl
 clear i0 a0 hs1 hs2 hWl
 go_wp2_with ((with_reducible (refine at_dst 20 ?_));(refine wpList_pushes rfl (.tmp 13) (.tmp 19) 77 rfl (.agg #[.int .i64 0,.int .i64 0]) 16 Try.underlying77 Try.infoNotice rfl (by decide) rfl (OwnL.nil 129 2 noV w1 w1.heap.size) ao l.length cap l rfl rfl HS1.out HS2.out noV_len (fun a _ u hu=>by simp [noV] at hu;rcases hu with rfl|rfl <;> rfl) (by simp;omega) (by decide) (Nat.le_refl _) ?_);intro v4 w4 hown4 hgrow4 hat4;have hb4:Below w1.heap.size w1 w4:=below_of_grown hgrow4 (fun k hk=>by cases hk) (Nat.le_refl _);have c4:=(hb4.cell (p:=⟨g,167+lv,none⟩) hg1).trans c1;have fz4:=(HD1.out.below hb4).box.frozen (167+lv))
 have HO4:=hide (show OwnL 129 2 noV w4 w1.heap.size v4 l by simpa using hown4)
 have HD4:=hide (HD1.out.below hb4)
 obtain⟨ao4,cap4,hv4⟩:=HO4.out.shape
 subst hv4
 obtain⟨n1,n2⟩:=HD4.out.setWait hn6 HLV.out (v1:=.slice none 0 0) (x:=[]) (w1:=w4) (OwnL.nil _ _ _ _ _) (Only.refl _ _) (fun b hb=>by cases hb)
 have HN1:=hide n1
 have hs1:=hb1.size
 have HN2:=hide ((PStep.below (n:=c.n) (g:=g) (p:=p) (hb1.trans (hb4.mono hb1.size))).trans n2)
 have hvg:∀ b,(Value.slice ao4 l.length cap4).ownBlock=some b→b≠g:=fun b hb=>by have:=(HO4.out.lt hb).1;omega
 have HO5:=hide (HO4.out.setOther (g:=g) (i:=167+lv) (u:=.slice none 0 0) hvg)
 have HAP:=hide (show ∀ a b,pblk c.n g ⟨p.rv,p.pv,⟨p.nw.lg,p.nw.vs,updF p.nw.wt lv (.slice none 0 0)⟩⟩ a=some b→(Value.slice ao4 l.length cap4).ownBlock=some b→False from fun a b ha hb=>by
  have h1:=(HO4.out.lt hb).1
  rcases n2.2 a b ha with⟨x,hx⟩|hx
  ·have:=(HD1.out.low x b hx).2;omega
  ·have:=(HO4.out.lt hb).2;omega)
 clear hown4 hgrow4 hat4 n1 n2
 go_wp2
 go_ret
 exact⟨_,_,rfl,by rw [HWL.out];exact HO5.out.mono hs1,HN1.out,HN2.out,HAP.out⟩
theorem dcLog_no (g n:Nat) (f:Nat→Nat→Bool) (rv pv:Value) (GR:Nat→Nat→Bool) (I:Nat→Nat) (Lg:NW) (level:Int) (w:World) (hbox:PBox w g n f rv GR pv I Lg) (hlv:okL n level=false) :
  Calls Try.prog 32 #[.pointer (some ⟨g,0,none⟩),.int .i64 level] w fun e w'=>e=.returned (.tuple #[.slice none 0 0,.int .i64 6])∧Below w.heap.size w w':=by
 have i0:=hbox.is
 have a0:=hbox.at
 have r0:=hbox.not
 have HQ:=hide (has_any n f level w)
 rw [hlv] at HQ
 clear hlv hbox
 go_enter Try.func32,Try.ntmps32
 go_wp2_with fail
 refine (HQ.out).mono ?_
 rintro e w1 ⟨rfl,hb1⟩
 clear i0 a0 r0
 go_wp2
 go_ret2
 exact⟨rfl,hb1⟩
theorem dcVersion_no (g n:Nat) (f:Nat→Nat→Bool) (rv pv:Value) (GR:Nat→Nat→Bool) (I:Nat→Nat) (Lg:NW) (level:Int) (w:World) (hbox:PBox w g n f rv GR pv I Lg) (hlv:okL n level=false) :
  Calls Try.prog 31 #[.pointer (some ⟨g,0,none⟩),.int .i64 level] w fun e w'=>e=.returned (.tuple #[.int .i64 0,.int .i64 6])∧Below w.heap.size w w':=by
 have i0:=hbox.is
 have a0:=hbox.at
 have r0:=hbox.not
 have HQ:=hide (has_any n f level w)
 rw [hlv] at HQ
 clear hlv hbox
 go_enter Try.func31,Try.ntmps31
 go_wp2_with fail
 refine (HQ.out).mono ?_
 rintro e w1 ⟨rfl,hb1⟩
 clear i0 a0 r0
 go_wp2
 go_ret2
 exact⟨rfl,hb1⟩
theorem dcPoll_no (g n:Nat) (f:Nat→Nat→Bool) (rv pv:Value) (GR:Nat→Nat→Bool) (I:Nat→Nat) (Lg:NW) (level:Int) (w:World) (hbox:PBox w g n f rv GR pv I Lg) (hlv:okL n level=false) :
  Calls Try.prog 34 #[.pointer (some ⟨g,0,none⟩),.int .i64 level] w fun e w'=>e=.returned (.tuple #[.slice none 0 0,.int .i64 6])∧Below w.heap.size w w':=by
 have i0:=hbox.is
 have a0:=hbox.at
 have r0:=hbox.not
 have HQ:=hide (has_any n f level w)
 rw [hlv] at HQ
 clear hlv hbox
 go_enter Try.func34,Try.ntmps34
 go_wp2_with fail
 refine (HQ.out).mono ?_
 rintro e w1 ⟨rfl,hb1⟩
 clear i0 a0 r0
 go_wp2
 go_ret2
 exact⟨rfl,hb1⟩
theorem dcLog_ok {B g:Nat} {w:World} {c:Cfg} {row:List RC} {I:Nat→Nat} {L:Nat→List Rec} {V:Nat→Nat} {W:Nat→List No} {p:PV} (hdoc:PDocO B w g c row I L V W p) (hn6:c.n≤6) (lv:Nat) (hlv:lv<c.n) (hlen:(L lv).length≤8) :
  Calls Try.prog 32 #[.pointer (some ⟨g,0,none⟩),.int .i64 lv] w fun e w'=>∃ vl,e=.returned (.tuple #[vl,.int .i64 0])∧OwnL 107 3 recV w' w.heap.size vl (L lv)∧Below w.heap.size w w':=by
 have HC:=hide (fun (w':World) (hb:Below w.heap.size w w')=>lgOf_any (hdoc.below hb) hn6 lv hlv hlen)
 have i0:=hdoc.box.is
 have a0:=hdoc.box.at
 have r0:=hdoc.box.not
 have HQ:=hide (has_any c.n (tT c) lv w)
 rw [okL_lt hlv] at HQ
 clear hlv hdoc
 go_enter Try.func32,Try.ntmps32
 go_wp2_with fail
 refine (HQ.out).mono ?_
 rintro e w1 ⟨rfl,hb1⟩
 clear i0 a0 r0
 go_wp2_with fail
 refine (HC.out _ hb1).mono ?_
 rintro e w2 ⟨vl,rfl,hvl,hb2⟩
 obtain⟨ao,cap,hvv⟩:=hvl.shape
 subst hvv
 have HVL:=hide (hvl.mono hb1.size)
 have hb3:=hb1.trans (hb2.mono hb1.size)
 clear hvl hb1 hb2
 go_wp2
 go_ret2
 exact⟨_,rfl,HVL.out,hb3⟩
theorem dcVersion_ok {B g:Nat} {w:World} {c:Cfg} {row:List RC} {I:Nat→Nat} {L:Nat→List Rec} {V:Nat→Nat} {W:Nat→List No} {p:PV} (hdoc:PDocO B w g c row I L V W p) (hn6:c.n≤6) (lv:Nat) (hlv:lv<c.n) :
  Calls Try.prog 31 #[.pointer (some ⟨g,0,none⟩),.int .i64 lv] w fun e w'=>e=.returned (.tuple #[.int .i64 (V lv),.int .i64 0])∧Below w.heap.size w w':=by
 have HC:=hide (fun (w':World) (hb:Below w.heap.size w w')=>nwVersion_any (hdoc.below hb) hn6 lv hlv)
 have i0:=hdoc.box.is
 have a0:=hdoc.box.at
 have r0:=hdoc.box.not
 have HQ:=hide (has_any c.n (tT c) lv w)
 rw [okL_lt hlv] at HQ
 clear hlv hdoc
 go_enter Try.func31,Try.ntmps31
 go_wp2_with fail
 refine (HQ.out).mono ?_
 rintro e w1 ⟨rfl,hb1⟩
 clear i0 a0 r0
 go_wp2_with fail
 refine (HC.out _ hb1).mono ?_
 rintro e w2 ⟨rfl,hb2⟩
 have hb3:=hb1.trans (hb2.mono hb1.size)
 clear hb1 hb2
 go_wp2
 go_ret2
 exact⟨rfl,hb3⟩
theorem dcPoll_ok {B g:Nat} {w:World} {c:Cfg} {row:List RC} {I:Nat→Nat} {L:Nat→List Rec} {V:Nat→Nat} {W:Nat→List No} {p:PV} (hdoc:PDocO B w g c row I L V W p) (hn6:c.n≤6) (lv:Nat) (hlv:lv<c.n) (hlen:(W lv).length≤4) :
  Calls Try.prog 34 #[.pointer (some ⟨g,0,none⟩),.int .i64 lv] w fun e w'=>∃ vl p',e=.returned (.tuple #[vl,.int .i64 0])∧OwnL 129 2 noV w' w.heap.size vl (W lv)∧PDocO B w' g c row I L V (updF W lv []) p'∧PStep c.n g p w p' w'∧∀ a b,pblk c.n g p' a=some b→vl.ownBlock=some b→False:=by
 have HC:=hide (fun (w':World) (hb:Below w.heap.size w w')=>nwPoll_any (hdoc.below hb) hn6 lv hlv hlen)
 have i0:=hdoc.box.is
 have a0:=hdoc.box.at
 have r0:=hdoc.box.not
 have HQ:=hide (has_any c.n (tT c) lv w)
 rw [okL_lt hlv] at HQ
 clear hlv hdoc
 go_enter Try.func34,Try.ntmps34
 go_wp2_with fail
 refine (HQ.out).mono ?_
 rintro e w1 ⟨rfl,hb1⟩
 clear i0 a0 r0
 go_wp2_with fail
 refine (HC.out _ hb1).mono ?_
 rintro e w2 ⟨vl,p',rfl,hvl,hpd,hps,hap⟩
 obtain⟨ao,cap,hvv⟩:=hvl.shape
 subst hvv
 have HVL:=hide (hvl.mono hb1.size)
 have HPD:=hide hpd
 have HPS:=hide ((PStep.below (n:=c.n) (g:=g) (p:=p) hb1).trans hps)
 have HAP:=hide hap
 clear hvl hpd hps hap
 go_wp2
 go_ret2
 exact⟨_,_,rfl,HVL.out,HPD.out,HPS.out,HAP.out⟩
end Go.Proofs.Ytgigkiocdiffjab
namespace Go.Proofs.Ytgigkiocdiffjab
open Go.RowKit Veil
structure PSt where
 row:List RC
 L:Nat→List Rec
 V:Nat→Nat
 W:Nat→List No
structure PInv (B:Nat) (w:World) (g:Nat) (c:Cfg) (s:PSt) (p:PV) (k:Nat):Prop where
 own:PDocO B w g c s.row (ownC s.row) s.L s.V s.W p
 right:CfgRight c
 good:RowOk c s.row k
 no35:∀ x,x ∈ s.row→x.b≠35
 wok:∀ i,i<c.n→WOk (s.W i)
 lok:∀ i,i<c.n→(s.L i).length≤8
 ver:∀ i,i<c.n→s.V i≤k
 old:B≤w.heap.size
section
variable {B g k:Nat} {w w':World} {c:Cfg} {s:PSt} {p:PV}
theorem PInv.n6 (h:PInv B w g c s p k):c.n≤6:=(labels_of h.right.labels).2.2.2.2.2.1
theorem PInv.rowGood (h:PInv B w g c s p k):RowGood c s.row:=⟨fun x hx=>⟨(h.good.cells x hx).1,h.no35 x hx⟩,h.good.length h.n6⟩
theorem PInv.bytes (h:PInv B w g c s p k):∀ x,x ∈ s.row→x.b<256:=fun x hx=>(h.good.cells x hx).1.byte
theorem PInv.below (h:PInv B w g c s p k) (hb:Below w.heap.size w w'):PInv B w' g c s p k:=⟨h.own.below hb,h.right,h.good,h.no35,h.wok,h.lok,h.ver,Nat.le_trans h.old hb.size⟩
theorem PInv.only (h:PInv B w g c s p k) {F:Nat→Prop} (ho:Only F w w') (hF:∀ a x,pblk c.n g p a=some x→¬ F x):PInv B w' g c s p k:=⟨h.own.only ho hF,h.right,h.good,h.no35,h.wok,h.lok,h.ver,Nat.le_trans h.old ho.size⟩
theorem PInv.mono (h:PInv B w g c s p k) {k':Nat} (hk:k≤k'):PInv B w g c s p k':=⟨h.own,h.right,h.good.mono hk,h.no35,h.wok,h.lok,fun i hi=>Nat.le_trans (h.ver i hi) hk,h.old⟩
theorem PDocO.base {B B':Nat} {w:World} {g:Nat} {c:Cfg} {row:List RC} {I:Nat→Nat} {L:Nat→List Rec} {V:Nat→Nat} {W:Nat→List No} {p:PV} (h:PDocO B w g c row I L V W p) (hB:B'≤B):PDocO B' w g c row I L V W p:=⟨h.box,h.rules.mono hB,h.cells.mono hB,fun i hi=>(h.logs i hi).mono hB,h.vers,fun i hi=>(h.waits i hi).mono hB,h.apart,fun a x hx=>⟨Nat.le_trans hB (h.low a x hx).1,(h.low a x hx).2⟩⟩
theorem PInv.base (h:PInv B w g c s p k) {B':Nat} (hB:B'≤B):PInv B' w g c s p k:=⟨h.own.base hB,h.right,h.good,h.no35,h.wok,h.lok,h.ver,Nat.le_trans hB h.old⟩
theorem PInv.okL (h:PInv B w g c s p k) (a:Int):okL c.n a=okL c.labels a:=by rw [(labels_of h.right.labels).2.2.2.2.1]
theorem PInv.ne (h:PInv B w g c s p k):∀ b,p.pv.ownBlock=some b→g≠b:=fun b hb e=>h.own.ne (a:=.cells) (by simp) hb e.symm
theorem PInv.vers (h:PInv B w g c s p k) (hk:k≤4000000000000):∀ i,i<c.n→s.V i≤4000000000000:=fun i hi=>Nat.le_trans (h.ver i hi) hk
def PRes (B:Nat) (w:World) (g:Nat) (c:Cfg) (p:PV) (k:Nat) (s':PSt) (w':World):Prop:=∃ p',PInv B w' g c s' p' (k+1)∧PStep c.n g p w p' w'
theorem PRes.same (h:PInv B w g c s p k) (hb:Below w.heap.size w w'):PRes B w g c p k s w':=⟨p,(h.below hb).mono (Nat.le_succ k),PStep.below hb⟩
theorem tellV_le {c:Cfg} {lo k n:Nat} {V:Nat→Nat} (h:∀ i,i<n→V i≤k):∀ i,i<n→tellV c lo V i≤k+1:=fun i hi=>by
 have:=h i hi
 unfold tellV
 cases c.le lo i <;> simp <;> omega
end
def insCode (c:Cfg) (row:List RC) (level a:Int) (t:ByteArray):Int:=
 bif !okL c.labels level then 6 else bif decide (a<0) || decide (((placesR c row level.toNat).length:Int)<a) then 7 else bif !textOkB t then 8 else bif decide (200<ownC row level.toNat+t.size) then 9 else 0
def insSt (c:Cfg) (s:PSt) (lv a:Nat) (t:ByteArray):PSt:=⟨putC s.row (newC t lv t.size) (behindR (placesR c s.row lv) a),s.L,tellV c lv s.V,tellW c 1 lv lv s.W⟩
def insRes (c:Cfg) (s:PSt) (level a:Int) (t:ByteArray):PSt:=bif insCode c s.row level a t == 0 then insSt c s level.toNat a.toNat t else s
theorem pInsert {B g k:Nat} {w:World} {c:Cfg} {s:PSt} {p:PV} (h:PInv B w g c s p k) (hk:k≤4000000000000) (level a:Int) (t:ByteArray) (hos:t.size≤140737488355328) :
  Calls Try.prog 12 #[.pointer (some ⟨g,0,none⟩),.int .i64 level,.int .i64 a,.string t] w fun e w'=>e=.returned (.int .i64 (insCode c s.row level a t))∧PRes B w g c p k (insRes c s level a t) w':=by
 obtain⟨_,_,_,_,hn,_,hn1⟩:=labels_of h.right.labels
 have no:∀ code:Int,insCode c s.row level a t=code→code≠0→(Calls Try.prog 12 #[.pointer (some ⟨g,0,none⟩),.int .i64 level,.int .i64 a,.string t] w fun e w'=>e=.returned (.int .i64 code)∧Below w.heap.size w w')→Calls Try.prog 12 #[.pointer (some ⟨g,0,none⟩),.int .i64 level,.int .i64 a,.string t] w fun e w'=>e=.returned (.int .i64 (insCode c s.row level a t))∧PRes B w g c p k (insRes c s level a t) w':=fun code h1 h2 hc=>hc.mono fun e w' ⟨e1,e2⟩=>by
  have h3:(code == 0)=false:=by simpa using h2
  rw [show insRes c s level a t=s by unfold insRes;rw [h1,h3];rfl,h1]
  exact⟨e1,PRes.same h e2⟩
 cases hlv:okL c.labels level
 ·exact no 6 (by unfold insCode;rw [hlv];rfl) (by decide) (dcInsert_lv g _ _ _ _ _ _ _ level a t w h.own.box (by rw [h.okL];exact hlv))
 obtain⟨lv,hlv1,hlv2⟩:=okL_nat' hn hlv
 subst hlv1
 by_cases hat:a<0∨((placesR c s.row lv).length:Int)<a
 ·exact no 7 (by unfold insCode;rw [hlv,Int.toNat_natCast];rcases hat with hat|hat <;> simp [hat]) (by decide) (dcInsert_at c s.row g _ _ p.rv p.pv _ _ _ B lv a t w h.own.box h.own.rules h.own.cells rfl rfl h.right h.rowGood hlv2 hat)
 obtain⟨x,rfl,hal⟩:∃ x:Nat,a=x∧x≤(placesR c s.row lv).length:=⟨a.toNat,by omega,by omega⟩
 have hf:(decide ((x:Int)<0) || decide (((placesR c s.row lv).length:Int)<(x:Int)))=false:=by simp;omega
 cases htx:textOkB t
 ·exact no 8 (by unfold insCode;rw [hlv,Int.toNat_natCast,hf,htx];rfl) (by decide) (dcInsert_text c s.row g _ _ p.rv p.pv _ _ _ B lv x t w h.own.box h.own.rules h.own.cells rfl rfl h.right h.rowGood hlv2 hal hos htx)
 have hts:t.size≤40:=by
  unfold textOkB at htx
  simp only [Bool.and_eq_true,decide_eq_true_eq] at htx
  exact htx.2
 have hq:=h.good.quota lv
 by_cases hfull:200<ownC s.row lv+t.size
 ·exact no 9 (by unfold insCode;rw [hlv,Int.toNat_natCast,hf,htx];simp [hfull]) (by decide) (dcInsert_full c s.row g _ _ p.rv p.pv _ _ _ B lv x t w h.own.box h.own.rules h.own.cells rfl rfl h.right h.rowGood hlv2 hal hts htx hq hfull)
 have hcode:insCode c s.row lv x t=0:=by unfold insCode;rw [hlv,Int.toNat_natCast,hf,htx];simp [hfull]
 have hres:insRes c s lv x t=insSt c s lv x t:=by unfold insRes;rw [hcode,Int.toNat_natCast,Int.toNat_natCast];rfl
 rw [hcode,hres]
 refine (dcInsert_ok c s.row g _ _ p.rv p.pv _ _ _ B lv x t w h.own.box h.own.rules h.own.cells rfl rfl h.right h.rowGood hlv2 hal hts htx (by omega) (PRes B w g c p k (insSt c s lv x t)) (fun w1 ⟨v6,hpb,hown,hon⟩=>?_))
 obtain⟨d1,s1⟩:=h.own.lay hpb hown hon h.old
 refine (nwTell_any d1 h.n6 h.right.labels 1 lv lv hlv2 h.wok (h.vers hk) (Nat.le_trans h.old s1.1.size)).mono ?_
 rintro e w' ⟨rfl,p',h1,h2⟩
 refine⟨rfl,p',⟨h1.congr (putC_own _ _ _ _ _) (fun _ _=>rfl) (fun _ _=>rfl) (fun _ _=>rfl),h.right,?_,?_,tellW_ok h.wok (by decide),h.lok,tellV_le h.ver,Nat.le_trans h.old (s1.trans h2).1.size⟩,s1.trans h2⟩
 ·have h4:(s.row.map fun x=>(x,Value.bool false)).map (·.1)=s.row:=by rw [List.map_map];exact List.map_id s.row
  have h3:=putIn_ok (rows:=s.row.map fun x=>(x,Value.bool false)) (b:=behindR (placesR c s.row lv) x) (s:=t) (k:=t.size) (M:=k) (by rw [h4];exact h.good) hlv2 (by rw [h4];omega)
  rw [putIn_map,h4] at h3
  exact h3.mono (Nat.le_succ k)
 ·intro y hy
  have hy:y ∈ putC s.row (newC t lv t.size) (behindR (placesR c s.row lv) x):=hy
  unfold putC at hy
  simp only [List.mem_append] at hy
  rcases hy with (hy|hy)|hy
  ·exact h.no35 y (List.mem_of_mem_take hy)
  ·exact newC_no35 lv htx y hy
  ·exact h.no35 y (List.mem_of_mem_drop hy)
def delCode (c:Cfg) (row:List RC) (level a b:Int):Int:=bif !okL c.labels level then 6 else bif !pieceB a b (placesR c row level.toNat).length then 7 else 0
def markSt (c:Cfg) (s:PSt) (lv a b lo:Nat) (m:Mk):PSt:=⟨markAll s.row (cellsTo c s.row lv (placesR c s.row lv) a b) m,s.L,tellV c lo s.V,tellW c m.kind lv lo s.W⟩
def delRes (c:Cfg) (s:PSt) (level a b:Int):PSt:=bif delCode c s.row level a b == 0 then markSt c s level.toNat a.toNat b.toNat level.toNat ⟨2,level.toNat,0⟩ else s
def raiCode (c:Cfg) (row:List RC) (level a b lb:Int):Int:=bif !okL c.labels level || !okL c.labels lb then 6 else bif !pieceB a b (placesR c row level.toNat).length then 7 else 0
def raiRes (c:Cfg) (s:PSt) (level a b lb:Int):PSt:=bif raiCode c s.row level a b lb == 0 then markSt c s level.toNat a.toNat b.toNat level.toNat ⟨3,level.toNat,lb.toNat⟩ else s
theorem pMark {B g k:Nat} {w w1:World} {c:Cfg} {s:PSt} {p:PV} (h:PInv B w g c s p k) (hk:k≤4000000000000) {lv a b lo:Nat} {m:Mk} (hlo:lo<c.n) (hm:MkOk c m) (hm0:(m.kind:Int)≠0) (hab:a<b) (hbl:b≤(placesR c s.row lv).length)
  (hown:OwnL 140 20 (pcV c) w1 B p.pv (markAll s.row (cellsTo c s.row lv (placesR c s.row lv) a b) m)) (hon:Only (fun k=>p.pv.ownBlock=some k) w w1) :
  Calls Try.prog 40 #[.pointer (some ⟨g,124,none⟩),.int .i64 m.kind,.int .i64 lv,.int .i64 lo] w1 fun e w'=>e=.returned (.tuple #[])∧PRes B w g c p k (markSt c s lv a b lo m) w':=by
 obtain⟨d1,s1⟩:=h.own.mark hown hon
 have hmm:=cells_meant c s.row lv h.bytes hab hbl m
 refine (nwTell_any d1 h.n6 h.right.labels m.kind lv lo hlo h.wok (h.vers hk) (Nat.le_trans h.old s1.1.size)).mono ?_
 rintro e w' ⟨rfl,p',h1,h2⟩
 refine⟨rfl,p',⟨h1.congr (by show ownC (markAll s.row _ m)=_;rw [hmm];exact ownC_marked _ _ _) (fun _ _=>rfl) (fun _ _=>rfl) (fun _ _=>rfl),h.right,?_,?_,tellW_ok h.wok hm0,h.lok,tellV_le h.ver,Nat.le_trans h.old (s1.trans h2).1.size⟩,s1.trans h2⟩
 ·show RowOk c (markAll s.row _ m) (k+1)
  rw [hmm];exact markIf_ok _ h.good hm
 ·show ∀ x,x ∈ markAll s.row _ m→x.b≠35
  rw [hmm];exact markIf_no35 _ h.no35
theorem pDelete {B g k:Nat} {w:World} {c:Cfg} {s:PSt} {p:PV} (h:PInv B w g c s p k) (hk:k≤4000000000000) (level a b:Int) :
  Calls Try.prog 14 #[.pointer (some ⟨g,0,none⟩),.int .i64 level,.int .i64 a,.int .i64 b] w fun e w'=>e=.returned (.int .i64 (delCode c s.row level a b))∧PRes B w g c p k (delRes c s level a b) w':=by
 obtain⟨_,_,_,_,hn,_,hn1⟩:=labels_of h.right.labels
 have no:∀ code:Int,delCode c s.row level a b=code→code≠0→(Calls Try.prog 14 #[.pointer (some ⟨g,0,none⟩),.int .i64 level,.int .i64 a,.int .i64 b] w fun e w'=>e=.returned (.int .i64 code)∧Below w.heap.size w w')→Calls Try.prog 14 #[.pointer (some ⟨g,0,none⟩),.int .i64 level,.int .i64 a,.int .i64 b] w fun e w'=>e=.returned (.int .i64 (delCode c s.row level a b))∧PRes B w g c p k (delRes c s level a b) w':=fun code h1 h2 hc=>hc.mono fun e w' ⟨e1,e2⟩=>by
  have h3:(code == 0)=false:=by simpa using h2
  rw [show delRes c s level a b=s by unfold delRes;rw [h1,h3];rfl,h1]
  exact⟨e1,PRes.same h e2⟩
 cases hlv:okL c.labels level
 ·exact no 6 (by unfold delCode;rw [hlv];rfl) (by decide) (dcDelete_lv g _ _ _ _ _ _ _ level a b w h.own.box (by rw [h.okL];exact hlv))
 obtain⟨lv,hlv1,hlv2⟩:=okL_nat' hn hlv
 subst hlv1
 cases hpc:pieceB a b (placesR c s.row lv).length
 ·exact no 7 (by unfold delCode;rw [hlv,Int.toNat_natCast,hpc];rfl) (by decide) (dcDelete_at c s.row g _ _ p.rv p.pv _ _ _ B lv a b w h.own.box h.own.rules h.own.cells rfl rfl h.right h.rowGood hlv2 hpc)
 obtain⟨x,y,rfl,rfl,hxy,hyl⟩:=piece_yes hpc
 have hcode:delCode c s.row lv x y=0:=by unfold delCode;rw [hlv,Int.toNat_natCast,hpc];rfl
 have hres:delRes c s lv x y=markSt c s lv x y lv ⟨2,lv,0⟩:=by unfold delRes;rw [hcode,Int.toNat_natCast,Int.toNat_natCast,Int.toNat_natCast];rfl
 rw [hcode,hres]
 exact dcDelete_ok c s.row g _ _ p.rv p.pv _ _ _ B lv x y w h.own.box h.own.rules h.own.cells rfl rfl h.right h.rowGood h.ne hlv2 hxy hyl (PRes B w g c p k (markSt c s lv x y lv ⟨2,lv,0⟩)) (fun w1 hown hon=>pMark (m:=⟨2,lv,0⟩) h hk hlv2 ⟨hlv2,by show 0<c.n;omega⟩ (by show (2:Int)≠0;decide) hxy hyl hown hon)
theorem pRaise {B g k:Nat} {w:World} {c:Cfg} {s:PSt} {p:PV} (h:PInv B w g c s p k) (hk:k≤4000000000000) (level a b lb:Int) :
  Calls Try.prog 26 #[.pointer (some ⟨g,0,none⟩),.int .i64 level,.int .i64 a,.int .i64 b,.int .i64 lb] w fun e w'=>e=.returned (.int .i64 (raiCode c s.row level a b lb))∧PRes B w g c p k (raiRes c s level a b lb) w':=by
 obtain⟨_,_,_,_,hn,_,hn1⟩:=labels_of h.right.labels
 have no:∀ code:Int,raiCode c s.row level a b lb=code→code≠0→(Calls Try.prog 26 #[.pointer (some ⟨g,0,none⟩),.int .i64 level,.int .i64 a,.int .i64 b,.int .i64 lb] w fun e w'=>e=.returned (.int .i64 code)∧Below w.heap.size w w')→Calls Try.prog 26 #[.pointer (some ⟨g,0,none⟩),.int .i64 level,.int .i64 a,.int .i64 b,.int .i64 lb] w fun e w'=>e=.returned (.int .i64 (raiCode c s.row level a b lb))∧PRes B w g c p k (raiRes c s level a b lb) w':=fun code h1 h2 hc=>hc.mono fun e w' ⟨e1,e2⟩=>by
  have h3:(code == 0)=false:=by simpa using h2
  rw [show raiRes c s level a b lb=s by unfold raiRes;rw [h1,h3];rfl,h1]
  exact⟨e1,PRes.same h e2⟩
 cases hlv:okL c.labels level
 ·exact no 6 (by unfold raiCode;rw [hlv];rfl) (by decide) (dcRaise_lv g _ _ _ _ _ _ _ level a b lb w h.own.box (by rw [h.okL];exact hlv))
 cases hlb:okL c.labels lb
 ·exact no 6 (by unfold raiCode;rw [hlv,hlb];rfl) (by decide) (dcRaise_lb g _ _ _ _ _ _ _ level a b lb w h.own.box (by rw [h.okL];exact hlv) (by rw [h.okL];exact hlb))
 obtain⟨lv,hlv1,hlv2⟩:=okL_nat' hn hlv
 subst hlv1
 obtain⟨lx,hlb1,hlb2⟩:=okL_nat' hn hlb
 subst hlb1
 cases hpc:pieceB a b (placesR c s.row lv).length
 ·exact no 7 (by unfold raiCode;rw [hlv,hlb,Int.toNat_natCast,hpc];rfl) (by decide) (dcRaise_at c s.row g _ _ p.rv p.pv _ _ _ B lv a b lx w h.own.box h.own.rules h.own.cells rfl rfl h.right h.rowGood hlv2 hlb2 hpc)
 obtain⟨x,y,rfl,rfl,hxy,hyl⟩:=piece_yes hpc
 have hcode:raiCode c s.row lv x y lx=0:=by unfold raiCode;rw [hlv,hlb,Int.toNat_natCast,hpc];rfl
 have hres:raiRes c s lv x y lx=markSt c s lv x y lv ⟨3,lv,lx⟩:=by unfold raiRes;rw [hcode,Int.toNat_natCast,Int.toNat_natCast,Int.toNat_natCast,Int.toNat_natCast];rfl
 rw [hcode,hres]
 exact dcRaise_ok c s.row g _ _ p.rv p.pv _ _ _ B lv x y lx w h.own.box h.own.rules h.own.cells rfl rfl h.right h.rowGood h.ne hlv2 hlb2 hxy hyl (PRes B w g c p k (markSt c s lv x y lv ⟨3,lv,lx⟩)) (fun w1 hown hon=>pMark (m:=⟨3,lv,lx⟩) h hk hlv2 ⟨hlv2,hlb2⟩ (by show (3:Int)≠0;decide) hxy hyl hown hon)
def relMask (c:Cfg) (row:List RC) (lv a b:Nat):Bool:=(((placesR c row lv).drop a).take (b-a)).any (fun p=>p.b == 35)
def relCode (c:Cfg) (s:PSt) (level a b tg:Int):Int:=
 bif !okL c.labels level || !okL c.labels tg then 6 else bif !grF c level.toNat tg.toNat then 10 else bif !pieceB a b (placesR c s.row level.toNat).length then 7 else bif relMask c s.row level.toNat a.toNat b.toNat then 11
 else bif !(cellsTo c s.row level.toNat (placesR c s.row level.toNat) a.toNat b.toNat).all (mayR c s.row tg.toNat) then 12 else bif decide (8≤(s.L tg.toNat).length) then 13 else 0
def relSt (c:Cfg) (s:PSt) (lv a b tg:Nat):PSt:=
 ⟨markAll s.row (cellsTo c s.row lv (placesR c s.row lv) a b) ⟨4,tg,0⟩,updF s.L tg (s.L tg++[⟨lv,((b-a:Nat):Int),(tellV c tg s.V tg:Nat)⟩]),tellV c tg s.V,tellW c 4 lv tg s.W⟩
def relRes (c:Cfg) (s:PSt) (level a b tg:Int):PSt:=bif relCode c s level a b tg == 0 then relSt c s level.toNat a.toNat b.toNat tg.toNat else s
theorem pRelease {B g k:Nat} {w:World} {c:Cfg} {s:PSt} {p:PV} (h:PInv B w g c s p k) (hk:k≤4000000000000) (level a b tg:Int) :
  Calls Try.prog 27 #[.pointer (some ⟨g,0,none⟩),.int .i64 level,.int .i64 a,.int .i64 b,.int .i64 tg] w fun e w'=>e=.returned (.int .i64 (relCode c s level a b tg))∧PRes B w g c p k (relRes c s level a b tg) w':=by
 obtain⟨_,_,_,_,hn,_,hn1⟩:=labels_of h.right.labels
 have no:∀ code:Int,relCode c s level a b tg=code→code≠0→(Calls Try.prog 27 #[.pointer (some ⟨g,0,none⟩),.int .i64 level,.int .i64 a,.int .i64 b,.int .i64 tg] w fun e w'=>e=.returned (.int .i64 code)∧Below w.heap.size w w')→Calls Try.prog 27 #[.pointer (some ⟨g,0,none⟩),.int .i64 level,.int .i64 a,.int .i64 b,.int .i64 tg] w fun e w'=>e=.returned (.int .i64 (relCode c s level a b tg))∧PRes B w g c p k (relRes c s level a b tg) w':=fun code h1 h2 hc=>hc.mono fun e w' ⟨e1,e2⟩=>by
  have h3:(code == 0)=false:=by simpa using h2
  rw [show relRes c s level a b tg=s by unfold relRes;rw [h1,h3];rfl,h1]
  exact⟨e1,PRes.same h e2⟩
 cases hlv:okL c.labels level
 ·exact no 6 (by unfold relCode;rw [hlv];rfl) (by decide) (dcRelease_lv g _ _ _ _ _ _ _ level a b tg w h.own.box (by rw [h.okL];exact hlv))
 cases hlb:okL c.labels tg
 ·exact no 6 (by unfold relCode;rw [hlv,hlb];rfl) (by decide) (dcRelease_lb g _ _ _ _ _ _ _ level a b tg w h.own.box (by rw [h.okL];exact hlv) (by rw [h.okL];exact hlb))
 obtain⟨lv,hlv1,hlv2⟩:=okL_nat' hn hlv
 subst hlv1
 obtain⟨lx,hlb1,hlb2⟩:=okL_nat' hn hlb
 subst hlb1
 cases hgr:grF c lv lx
 ·exact no 10 (by unfold relCode;rw [hlv,hlb,Int.toNat_natCast,Int.toNat_natCast,hgr];rfl) (by decide) (dcRelease_gr g _ _ _ _ _ _ _ lv lx a b w h.own.box h.n6 hlv2 hlb2 hgr)
 cases hpc:pieceB a b (placesR c s.row lv).length
 ·exact no 7 (by unfold relCode;rw [hlv,hlb,Int.toNat_natCast,Int.toNat_natCast,hgr,hpc];rfl) (by decide) (dcRelease_at c s.row g _ _ p.rv p.pv _ _ _ B lv lx a b w h.own.box h.own.rules h.own.cells rfl rfl h.right h.rowGood hlv2 hlb2 hgr hpc)
 obtain⟨x,y,rfl,rfl,hxy,hyl⟩:=piece_yes hpc
 cases hmask:relMask c s.row lv x y
 case true=>exact no 11 (by unfold relCode;rw [hlv,hlb];simp only [Int.toNat_natCast];rw [hgr,hpc,hmask];rfl) (by decide) (dcRelease_mask c s.row g _ _ p.rv p.pv _ _ _ B lv x y lx w h.own.box h.own.rules h.own.cells rfl rfl h.right h.rowGood hlv2 hlb2 hgr h.ne hxy hyl hmask)
 cases hst:(cellsTo c s.row lv (placesR c s.row lv) x y).all (mayR c s.row lx)
 ·exact no 12 (by unfold relCode;rw [hlv,hlb];simp only [Int.toNat_natCast];rw [hgr,hpc,hmask,hst];rfl) (by decide) (dcRelease_stem c s.row g _ _ p.rv p.pv _ _ _ B lv x y lx w h.own.box h.own.rules h.own.cells rfl rfl h.right h.rowGood hlv2 hlb2 hgr h.ne hxy hyl hmask hst)
 have hfull:∀ r,r=decide (8≤(s.L lx).length)→∀ w'',Below w.heap.size w w''→Calls Try.prog 54 #[.pointer (some ⟨g,118,none⟩),.int .i64 lx] w'' fun e w3=>e=.returned (.bool r)∧w''=w3:=fun r hr w'' hb2=>by
  rw [hr]
  exact lgFull_any (h.own.below hb2) h.n6 lx hlb2
 by_cases hfu:8≤(s.L lx).length
 ·exact no 13 (by unfold relCode;rw [hlv,hlb];simp only [Int.toNat_natCast];rw [hgr,hpc,hmask,hst];simp [hfu]) (by decide) (dcRelease_full c s.row g _ _ p.rv p.pv _ _ _ B lv x y lx w h.own.box h.own.rules h.own.cells rfl rfl h.right h.rowGood hlv2 hlb2 hgr h.ne hxy hyl hmask hst (hfull true (by simp [hfu])))
 have hcode:relCode c s lv x y lx=0:=by unfold relCode;rw [hlv,hlb];simp only [Int.toNat_natCast];rw [hgr,hpc,hmask,hst];simp [hfu]
 have hres:relRes c s lv x y lx=relSt c s lv x y lx:=by unfold relRes;rw [hcode];simp only [Int.toNat_natCast];rfl
 rw [hcode,hres]
 have hm:MkOk c ⟨4,lx,0⟩:=⟨hlb2,by show 0<c.n;omega⟩
 refine dcRelease_ok c s.row g _ _ p.rv p.pv _ _ _ B lv x y lx w h.own.box h.own.rules h.own.cells rfl rfl h.right h.rowGood hlv2 hlb2 hgr h.ne hxy hyl hmask hst (hfull false (by simp;omega))
  (PRes B w g c p k (relSt c s lv x y lx)) (PRes B w g c p k (markSt c s lv x y lx ⟨4,lx,0⟩)) (PRes B w g c p k (markSt c s lv x y lx ⟨4,lx,0⟩)) ((tellV c lx s.V lx:Nat):Int) (fun w1 hown hon=>pMark (m:=⟨4,lx,0⟩) h hk hlb2 hm (by show (4:Int)≠0;decide) hxy hyl hown hon) (fun w1 ⟨p1,h1,h2⟩=>?_) (fun w1 ⟨p1,h1,h2⟩=>?_)
 ·refine (nwVersion_any h1.own h.n6 lx hlb2).mono ?_
  rintro e w'' ⟨rfl,hb2⟩
  exact⟨rfl,p1,h1.below hb2,h2.trans (PStep.below hb2)⟩
 ·have hxy':(y:Int)-(x:Int)=((y-x:Nat):Int):=by omega
  rw [hxy']
  refine (lgAdd_any h1.own h.n6 lx hlb2 lv ((y-x:Nat):Int) _ (by show (s.L lx).length<8;omega) h1.old).mono ?_
  rintro e w'' ⟨rfl,p',h3,h4⟩
  refine⟨rfl,p',⟨h3,h.right,h1.good,h1.no35,h1.wok,fun i hi=>?_,h1.ver,Nat.le_trans h1.old h4.1.size⟩,h2.trans h4⟩
  show (updF s.L lx (s.L lx++[⟨lv,((y-x:Nat):Int),(tellV c lx s.V lx:Nat)⟩]) i).length≤8
  by_cases hil:i=lx
  ·subst hil;rw [updF_same,List.length_append,List.length_singleton];omega
  ·rw [updF_other _ _ hil];exact h.lok i hi
end Go.Proofs.Ytgigkiocdiffjab
