import Derived.Test.YtgigkiocdiffjaaGreatS28
import Derived.Test.YtgigkiocdiffjaaGreatS31
import Derived.Test.YtgigkiocdiffjaaGreatS18
import Derived.Test.YtgigkiocdiffjaaGreatS30
set_option maxRecDepth 100000
set_option maxHeartbeats 16000000
namespace Go.Proofs.YtgigkiocdiffjaaGreat
open Go.RowKit Veil
def stZ:PSt:=⟨[],fun _=>[],fun _=>0,fun _=>[]⟩
theorem pOpen (c:Cfg) (v:CfgV) (w:World) (hok:CfgOk c) (hat:CfgAt w c v) (hcap:c.rules.length≤v.rc) (hk:CheckIs c 0) :
  Calls Tryz.prog 20 #[.agg (cfgCells c v)] w fun e w'=>∃ g p,e=.returned (.tuple #[.pointer (some ⟨g,0,none⟩),.int .i64 0])∧PInv w.heap.size w' g c stZ p 0∧Below w.heap.size w w':=by
 refine (vOpen_ok c v w hok hat hcap hk).mono ?_
 rintro e w' ⟨g,rv,rfl,hpb,hrl,hg,hrg,hb⟩
 have hblk:∀ a x,pblk c.n g ⟨rv,.slice none 0 0,nwZ⟩ a=some x→(a=.box∧x=g)∨(a=.rules∧rv.ownBlock=some x):=by
  intro a x hx
  cases a with
  | box=>exact Or.inl ⟨rfl,(Option.some.inj hx).symm⟩
  | rules=>exact Or.inr ⟨rfl,hx⟩
  | cells=>cases hx
  | log i=>have:=(pblk_log' (g:=g) hx).2;cases this
  | wait i=>have:=(pblk_wait' (g:=g) hx).2;cases this
 refine⟨g,⟨rv,.slice none 0 0,nwZ⟩,rfl,⟨⟨hpb,hrl,OwnL.nil _ _ _ _ _,fun _ _=>OwnL.nil _ _ _ _ _,fun _ _=>rfl,fun _ _=>OwnL.nil _ _ _ _ _,fun a b x ha hb=>?_,fun a x hx=>?_⟩,CfgRight.is hk,⟨fun x hx=>(by cases hx),fun l=>Nat.zero_le _⟩,fun x hx=>(by cases hx),fun _ _=>WOk.nil,fun _ _=>Nat.zero_le _,fun _ _=>Nat.le_refl _,hb.size⟩,hb⟩
 ·rcases hblk a x ha with⟨rfl,h1⟩|⟨rfl,h1⟩
  ·rcases hblk b x hb with⟨rfl,_⟩|⟨rfl,h2⟩
   ·rfl
   ·exact absurd h1 (hrg x h2)
  ·rcases hblk b x hb with⟨rfl,h2⟩|⟨rfl,_⟩
   ·exact absurd h2 (hrg x h1)
   ·rfl
 ·rcases hblk a x hx with⟨rfl,rfl⟩|⟨rfl,h1⟩
  ·exact⟨hg,hpb.lt⟩
  ·exact hrl.lt h1
def signT:ByteArray:=⟨#[45]⟩
theorem one_new (a:Nat):newC signT a signT.size=[⟨45,a,[]⟩]:=by
 unfold newC newTo signT
 rfl
theorem one_there (c:Cfg) (a d:Nat):thereB c ⟨45,a,[]⟩ d=c.le a d:=by simp [thereB]
theorem view_one (c:Cfg) (a d:Nat):viewT (placesR c [⟨45,a,[]⟩] d)=bif c.le a d then signT else ⟨#[]⟩:=by
 cases h:c.le a d
 ·have hA:atTo c [⟨45,a,[]⟩] d 1=[]:=by
   have:thereB c (cellAt [⟨45,a,[]⟩] 0) d=false:=by rw [show cellAt [⟨45,a,[]⟩] 0=⟨45,a,[]⟩ from rfl,one_there];exact h
   rw [atTo_no this];rfl
  unfold placesR placesF
  rw [show ([⟨45,a,[]⟩]:List RC).length=1 from rfl,hA]
  rfl
 ·have hA:atTo c [⟨45,a,[]⟩] d 1=[0]:=by
   have:thereB c (cellAt [⟨45,a,[]⟩] 0) d=true:=by rw [show cellAt [⟨45,a,[]⟩] 0=⟨45,a,[]⟩ from rfl,one_there];exact h
   rw [atTo_yes this];rfl
  have hH:hidTo c [⟨45,a,[]⟩] d 1=[false]:=by
   unfold hidTo
   rw [hA]
   simp only [List.map_cons,List.map_nil,hidR,cellAt,List.getD,List.getElem?_cons_zero,Option.getD_some,seenF,List.foldl_nil,h,Bool.not_true]
  unfold placesR placesF
  rw [show ([⟨45,a,[]⟩]:List RC).length=1 from rfl,hA,hH]
  have hst:stF c d [⟨45,a,[]⟩] [0] [false] 1 0=false:=by
   unfold stF pcF pieceF
   simp [hidF,kindN,byF,numF,cellAt,emptyB]
  have hm:moreTo (pcF [⟨45,a,[]⟩] [0] [false] 1) (stF c d [⟨45,a,[]⟩] [0] [false] 1) (frF c d [⟨45,a,[]⟩] [0]) 1 1=[false]:=by
   rw [moreTo,hst];rfl
  rw [show ([0]:List Nat).length=1 from rfl,hm]
  rfl
end Go.Proofs.YtgigkiocdiffjaaGreat
namespace Go.Proofs.YtgigkiocdiffjaaGreat
open Go.RowKit Veil
theorem ins_sign (c:Cfg) (hl:labelsB c=true) (a:Nat) (ha:a<c.n):insCode c [] a 0 signT=0∧(insRes c stZ a 0 signT).row=[⟨45,a,[]⟩]:=by
 obtain⟨_,_,_,_,hn,_,_⟩:=labels_of hl
 have h1:okL c.labels (a:Int)=true:=by rw [← hn];exact okL_lt ha
 have hp:placesR c [] a=[]:=rfl
 have h2:insCode c [] a 0 signT=0:=by
  unfold insCode
  rw [h1,Int.toNat_natCast,hp]
  have h3:textOkB signT=true:=by decide +kernel
  rw [h3]
  rfl
 refine⟨h2,?_⟩
 unfold insRes
 rw [show stZ.row=[] from rfl,h2,Int.toNat_natCast]
 show (insSt c stZ a 0 signT).row=_
 unfold insSt
 show putC [] (newC signT a signT.size) (behindR (placesR c [] a) 0)=_
 rw [one_new]
 rfl
theorem kworks_any (c:Cfg) (v:CfgV) (w:World) (hok:CfgOk c) (hat:CfgAt w c v) (hcap:c.rules.length≤v.rc) (hk:CheckIs c 0) :
  Calls Tryz.prog 22 #[.agg (cfgCells c v)] w fun e w'=>e=.returned (.bool true)∧Below w.heap.size w w':=by
 have hR:=right_of hk
 obtain⟨_,_,_,_,hn,hn6,hn1⟩:=labels_of hR.labels
 have HB0:=hide (below_box w (.cells (cfgCells c v) 31))
 have HX0:=hide (box_new w c v)
 have HOP:=hide (fun w' (hb:Below w.heap.size w w')=>pOpen c v w' hok (hat.below hb) hcap hk)
 have HBE:=hide (fun (a b:Nat) (w':World) (hb:Below w.heap.size w w') (ha:a<c.n) (hb':b<c.n)=>kbelow_any c v hR (rankC c a) a b w' (Nat.le_refl _) (hat.below hb) ha hb')
 have HSG:=hide (fun (a:Nat) (ha:a<c.n)=>ins_sign c hR.labels a ha)
 have HN:=hide hn
 clear hok hat hcap hk hR
 unfold cfgCells at *
 go_enter Tryz.func22,Tryz.ntmps22
 go_wp2
 go_loopw [3] (fun i wr=>∃ k:Nat,k≤c.n∧i=.int .i64 k∧BoxAt wr w.heap.size c v∧Below w.heap.size w wr) (fun i _=>c.n-(intOf i).toNat)
 case atStart=>exact⟨0,Nat.zero_le _,rfl,HX0.out,HB0.out⟩
 case round=>
  clear HB0 HX0
  obtain⟨wo,rfl⟩:∃ x,x=wr:=⟨_,rfl⟩
  obtain⟨k,hkn,rfl,hbox,hbel⟩:=hrel
  obtain⟨q0,q1,q2,q3⟩:=hbox.cells
  have HB:=hide hbox
  have hbl:=hbox.lt
  clear hbox
  by_cases hlt:k<c.n
  ·have hki:(k:Int)<c.labels:=by have:=HN.out;omega
   have HO1:=hide (HOP.out wo hbel)
   obtain⟨hsc,hsr⟩:=HSG.out k hlt
   have HSC:=hide hsc
   have HSR:=hide hsr
   clear hsc hsr
   go_wp2_with fail
   refine (HO1.out).mono ?_
   rintro e w1 ⟨g,p,rfl,hinv,hb1⟩
   have HINV:=hide hinv
   have HINS:=hide (pInsert hinv (by omega) k 0 signT (by decide))
   rw [show stZ.row=[] from rfl,HSC.out] at HINS
   unfold signT at HINS
   have hbel1:=hbel.trans (hb1.mono hbel.size)
   clear hinv q0 q1 q2 q3
   go_wp2_with fail
   refine (HINS.out).mono ?_
   rintro e w2 ⟨rfl,p2,hinv2,hst2⟩
   have hlo:∀ b,(∃ a,pblk c.n g p a=some b)→wo.heap.size≤b:=fun b ⟨a,ha⟩=>(HINV.out.own.low a b ha).1
   have hb2:Below wo.heap.size w1 w2:=hst2.1.below hlo hb1.size
   have hbel2:Below w.heap.size w w2:=hbel1.trans (hb2.mono hbel.size)
   have HB2:=hide (show BoxAt w2 w.heap.size c v from Below.row hb2 (Below.row hb1 HB.out hbl) hbl)
   have HI2:=hide hinv2
   have hbl2:=HB2.out.lt
   clear hinv2 hst2 hlo
   go_wp2
   go_loopw [6] (fun j wr=>∃ m:Nat,m≤c.n∧j=.int .i64 m∧Below w2.heap.size w2 wr) (fun j _=>c.n-(intOf j).toNat)
   case atStart=>exact⟨0,Nat.zero_le _,rfl,Below.refl _ _⟩
   case round=>
    obtain⟨wi,rfl⟩:∃ x,x=wr:=⟨_,rfl⟩
    obtain⟨m,hm,rfl,hbi⟩:=hrel
    have HB3:=hide (show BoxAt wi w.heap.size c v from Below.row hbi HB2.out hbl2)
    obtain⟨q0,q1,q2,q3⟩:=HB3.out.cells
    by_cases hml:m<c.n
    ·have hmi:(m:Int)<c.labels:=by have:=HN.out;omega
     have HI3:=hide (HI2.out.below hbi)
     have HV:=hide (dcView_ok c (insRes c stZ k 0 signT).row g _ _ p2.rv p2.pv _ _ _ wo.heap.size m wi HI3.out.own.box HI3.out.own.rules HI3.out.own.cells rfl rfl HI3.out.right HI3.out.rowGood hml)
     rw [HSR.out,view_one] at HV
     have hbel3:=hbel2.trans (hbi.mono hbel2.size)
     have HBE1:=hide (fun w' (hb:Below wi.heap.size wi w')=>HBE.out k m w' (hbel3.trans (hb.mono hbel3.size)) hlt hml)
     have hbl3:=HB3.out.lt
     cases hle:c.le k m
     ·rw [hle] at HV HBE1
      simp only [cond_false] at HV
      clear hle q1 q2 q3
      go_wp2_with fail
      refine (HV.out).mono ?_
      rintro e w4 ⟨rfl,hb4⟩
      have HB4:=hide (show BoxAt w4 w.heap.size c v from Below.row hb4 HB3.out hbl3)
      obtain⟨r0,r1,r2,r3⟩:=HB4.out.cells
      clear q0
      go_wp2_with fail
      refine (HBE1.out _ hb4).mono ?_
      rintro e w5 ⟨rfl,hb5⟩
      have hb6:=hbi.trans ((hb4.trans (hb5.mono hb4.size)).mono hbi.size)
      have hss:=toList_self (⟨#[]⟩:ByteArray)
      clear r0 r1 r2 r3 hb4 hb5
      go_wp2
      go_roundw
      case rel=>exact⟨m+1,by omega,by go_num,hb6⟩
      case measure=>simp [intOf];omega
     ·rw [hle] at HV HBE1
      simp only [cond_true] at HV
      unfold signT at HV
      clear hle q1 q2 q3
      go_wp2_with fail
      refine (HV.out).mono ?_
      rintro e w4 ⟨rfl,hb4⟩
      have HB4:=hide (show BoxAt w4 w.heap.size c v from Below.row hb4 HB3.out hbl3)
      obtain⟨r0,r1,r2,r3⟩:=HB4.out.cells
      clear q0
      go_wp2_with fail
      refine (HBE1.out _ hb4).mono ?_
      rintro e w5 ⟨rfl,hb5⟩
      have hb6:=hbi.trans ((hb4.trans (hb5.mono hb4.size)).mono hbi.size)
      have hss:=toList_self (⟨#[45]⟩:ByteArray)
      clear r0 r1 r2 r3 hb4 hb5
      go_wp2
      go_roundw
      case rel=>exact⟨m+1,by omega,by go_num,hb6⟩
      case measure=>simp [intOf];omega
    ·obtain rfl:m=c.n:=by omega
     have hmi:decide (((c.n:Nat):Int)<c.labels)=false:=by have:=HN.out;simp;omega
     have hbel3:=hbel2.trans (hbi.mono hbel2.size)
     clear q1 q2 q3
     go_wp2
     go_roundw
     case rel=>exact⟨k+1,by omega,by go_num,HB3.out,hbel3⟩
     case measure=>simp [intOf];omega
  ·obtain rfl:k=c.n:=by omega
   have hki:decide (((c.n:Nat):Int)<c.labels)=false:=by have:=HN.out;simp;omega
   clear q1 q2 q3
   go_wp2
   go_ret
   exact⟨rfl,hbel⟩
end Go.Proofs.YtgigkiocdiffjaaGreat
namespace Go.Proofs.YtgigkiocdiffjaaGreat
open Go.RowKit Veil
def sp3 (x:Sp):Int × Int × Int:=(x.kind,x.lo,x.hi)
def spansL (c:Cfg) (row:List RC) (lv:Nat):List (Int × Int × Int):=(spansTo (viewT (placesR c row lv)) (viewT (placesR c row lv)).size).map sp3
def stepSt (c:Cfg) (s:PSt) (o:KS):PSt:=
 if o.kind=1 then insRes c s o.level o.lo o.text else if o.kind=2 then delRes c s o.level o.lo o.hi else if o.kind=3 then raiRes c s o.level o.lo o.hi o.label else if o.kind=4 then relRes c s o.level o.lo o.hi o.label
 else if o.kind=10 then (bif okL c.labels o.level then ⟨s.row,s.L,s.V,updF s.W o.level.toNat []⟩ else s) else s
def stepAns (c:Cfg) (s:PSt) (o:KS):Ans:=
 if o.kind=1 then .err (insCode c s.row o.level o.lo o.text) else if o.kind=2 then .err (delCode c s.row o.level o.lo o.hi) else if o.kind=3 then .err (raiCode c s.row o.level o.lo o.hi o.label) else if o.kind=4 then .err (relCode c s o.level o.lo o.hi o.label)
 else if o.kind<1∨10<o.kind then .err 0
 else bif !okL c.labels o.level then .err 6
 else if o.kind=5 then ⟨0,0,viewT (placesR c s.row o.level.toNat),[]⟩ else if o.kind=6 then ⟨0,0,tNo,(spansL c s.row o.level.toNat).flatMap nums3⟩ else if o.kind=7 then ⟨0,200-(ownC s.row o.level.toNat:Int),tNo,[]⟩ else if o.kind=8 then ⟨0,(s.V o.level.toNat:Int),tNo,[]⟩
 else if o.kind=9 then ⟨0,0,tNo,(s.L o.level.toNat).flatMap numsR⟩ else ⟨0,0,tNo,(s.W o.level.toNat).flatMap numsN⟩
section
variable {B g k:Nat} {w w1 w2 w3 w':World} {c:Cfg} {s s':PSt} {p:PV}
theorem PRes.keep (h:PInv B w g c s p k) (hr:PRes B w1 g c p k s' w2):∀ j,w.heap.size≤j→j<w1.heap.size→w2.heap[j]?=w1.heap[j]?:=fun j h1 h2=>by
 obtain⟨p',_,hst,_⟩:=hr
 refine hst.block j h2 (fun ⟨a,ha⟩=>?_)
 have:=(h.own.low a j ha).2
 omega
theorem PRes.then (hr:PRes B w1 g c p k s' w2) (hb:Below w2.heap.size w2 w3):PRes B w1 g c p k s' w3:=by
 obtain⟨p',h1,h2⟩:=hr
 exact⟨p',h1.below hb,h2.trans (PStep.below hb)⟩
def Mid (B:Nat) (w:World) (g:Nat) (c:Cfg) (p:PV) (k:Nat) (s':PSt) (w2:World):Prop:=∃ w1,Below w.heap.size w w1∧w.heap.size+1<w1.heap.size∧PRes B w1 g c p k s' w2
theorem Mid.then (h:Mid B w g c p k s' w2) (hb:Below w2.heap.size w2 w3):Mid B w g c p k s' w3:=by
 obtain⟨w1,h1,h2,h3⟩:=h
 exact⟨w1,h1,h2,h3.then hb⟩
theorem Mid.told (h:PInv B w g c s p k) (hm:Mid B w g c p k s' w2) (ho:Only (fun b=>b=w.heap.size+1) w2 w'):PRes B w g c p k s' w':=by
 obtain⟨w1,hb,hs,p',h1,h2⟩:=hm
 have hx:∀ a x,pblk c.n g p' a=some x→¬ x=w.heap.size+1:=fun a x hx e=>by
  rcases h2.2 a x hx with⟨b,hb⟩|h3
  ·have:=(h.own.low b x hb).2
   omega
  ·omega
 have h4:PStep c.n g p w p' w2:=PStep.trans (PStep.below hb) h2
 exact⟨p',h1.only ho hx,h4.1.trans ho (fun k hk=>Or.inr (by omega)),h4.2⟩
theorem Mid.size (hm:Mid B w g c p k s' w2):w.heap.size+1<w2.heap.size:=by
 obtain⟨w1,hb,hs,p',h1,h2⟩:=hm
 exact Nat.lt_of_lt_of_le hs h2.1.size
theorem own_map3 {α β:Type} {e:TypeId} {sz:Nat} {f:α→List Value} {f':β→List Value} {w:World} {B:Nat} {v:Value} {l:List α} (h:OwnL e sz f w B v l) (m:α→β) (hm:∀ a,f' (m a)=f a):OwnL e sz f' w B v (l.map m):=by
 have hf:(l.map m).flatMap f'=l.flatMap f:=by
  rw [List.flatMap_map]
  congr 1
  funext a
  exact hm a
 unfold OwnL at *
 rw [hf,List.length_map]
 exact h
def DoesG (B:Nat) (w:World) (g:Nat) (c:Cfg) (p:PV) (k:Nat) (o:KS) (a:Ans) (s':PSt):Prop:=
 Calls Tryz.prog 15 #[.pointer (some ⟨g,0,none⟩),.agg o.cells] w fun e w'=>∃ vl,e=.returned (.agg (toldC a.e a.n a.s vl))∧OwnL 3 1 inV w' w.heap.size vl a.l∧PRes B w g c p k s' w'
theorem told_own {vl:Value} {l:List Int} (ho:OwnL 3 1 inV w3 w2.heap.size vl l) (hs:w.heap.size+1<w2.heap.size) (hon:Only (fun b=>b=w.heap.size+1) w3 w'):OwnL 3 1 inV w' w.heap.size vl l:=
 (ho.only hon (fun b hb e=>by have:=(ho.lt hb).1;omega)).mono (by omega)
theorem does_any (h:PInv B w g c s p k) (hk:k≤4000000000000) (o:KS) (hos:o.text.size≤140737488355328):DoesG B w g c p k o (stepAns c s o) (stepSt c s o):=by
 obtain⟨_,_,_,_,hn,_,hn1⟩:=labels_of h.right.labels
 unfold DoesG
 by_cases k1:o.kind=1
 ·refine (does_insert g o (fun w2 code=>code=insCode c s.row o.level o.lo o.text∧Mid B w g c p k (insRes c s o.level o.lo o.text) w2) w k1 (fun w1 hb hs=>?_)).mono ?_
  ·refine (pInsert (h.below hb) hk o.level o.lo o.text hos).mono ?_
   rintro e w2 ⟨rfl,hr⟩
   exact⟨_,rfl,⟨rfl,w1,hb,hs,hr⟩,PRes.keep h hr⟩
  ·rintro e w' ⟨code,w2,rfl,⟨rfl,hm⟩,ho⟩
   rw [show stepSt c s o=insRes c s o.level o.lo o.text by simp [stepSt,k1],show stepAns c s o=.err (insCode c s.row o.level o.lo o.text) by simp [stepAns,k1]]
   exact⟨_,rfl,OwnL.nil _ _ _ _ _,Mid.told h hm ho⟩
 by_cases k2:o.kind=2
 ·refine (does_delete g o (fun w2 code=>code=delCode c s.row o.level o.lo o.hi∧Mid B w g c p k (delRes c s o.level o.lo o.hi) w2) w k2 (fun w1 hb hs=>?_)).mono ?_
  ·refine (pDelete (h.below hb) hk o.level o.lo o.hi).mono ?_
   rintro e w2 ⟨rfl,hr⟩
   exact⟨_,rfl,⟨rfl,w1,hb,hs,hr⟩,PRes.keep h hr⟩
  ·rintro e w' ⟨code,w2,rfl,⟨rfl,hm⟩,ho⟩
   rw [show stepSt c s o=delRes c s o.level o.lo o.hi by simp [stepSt,k2],show stepAns c s o=.err (delCode c s.row o.level o.lo o.hi) by simp [stepAns,k2]]
   exact⟨_,rfl,OwnL.nil _ _ _ _ _,Mid.told h hm ho⟩
 by_cases k3:o.kind=3
 ·refine (does_raise g o (fun w2 code=>code=raiCode c s.row o.level o.lo o.hi o.label∧Mid B w g c p k (raiRes c s o.level o.lo o.hi o.label) w2) w k3 (fun w1 hb hs=>?_)).mono ?_
  ·refine (pRaise (h.below hb) hk o.level o.lo o.hi o.label).mono ?_
   rintro e w2 ⟨rfl,hr⟩
   exact⟨_,rfl,⟨rfl,w1,hb,hs,hr⟩,PRes.keep h hr⟩
  ·rintro e w' ⟨code,w2,rfl,⟨rfl,hm⟩,ho⟩
   rw [show stepSt c s o=raiRes c s o.level o.lo o.hi o.label by simp [stepSt,k3],show stepAns c s o=.err (raiCode c s.row o.level o.lo o.hi o.label) by simp [stepAns,k3]]
   exact⟨_,rfl,OwnL.nil _ _ _ _ _,Mid.told h hm ho⟩
 by_cases k4:o.kind=4
 ·refine (does_release g o (fun w2 code=>code=relCode c s o.level o.lo o.hi o.label∧Mid B w g c p k (relRes c s o.level o.lo o.hi o.label) w2) w k4 (fun w1 hb hs=>?_)).mono ?_
  ·refine (pRelease (h.below hb) hk o.level o.lo o.hi o.label).mono ?_
   rintro e w2 ⟨rfl,hr⟩
   exact⟨_,rfl,⟨rfl,w1,hb,hs,hr⟩,PRes.keep h hr⟩
  ·rintro e w' ⟨code,w2,rfl,⟨rfl,hm⟩,ho⟩
   rw [show stepSt c s o=relRes c s o.level o.lo o.hi o.label by simp [stepSt,k4],show stepAns c s o=.err (relCode c s o.level o.lo o.hi o.label) by simp [stepAns,k4]]
   exact⟨_,rfl,OwnL.nil _ _ _ _ _,Mid.told h hm ho⟩
 by_cases kx:o.kind<1∨10<o.kind
 ·have k10:¬ o.kind=10:=by omega
  refine (does_none g o w kx).mono ?_
  rintro e w' ⟨rfl,hb⟩
  rw [show stepSt c s o=s by simp [stepSt,k1,k2,k3,k4,k10],show stepAns c s o=.err 0 by simp only [stepAns,k1,k2,k3,k4,kx,if_true,if_false]]
  exact⟨_,rfl,OwnL.nil _ _ _ _ _,PRes.same h hb⟩
 have ke:∀ b:Bool,okL c.labels o.level=b→stepAns c s o=(bif !b then .err 6
   else if o.kind=5 then ⟨0,0,viewT (placesR c s.row o.level.toNat),[]⟩ else if o.kind=6 then ⟨0,0,tNo,(spansL c s.row o.level.toNat).flatMap nums3⟩ else if o.kind=7 then ⟨0,200-(ownC s.row o.level.toNat:Int),tNo,[]⟩ else if o.kind=8 then ⟨0,(s.V o.level.toNat:Int),tNo,[]⟩
   else if o.kind=9 then ⟨0,0,tNo,(s.L o.level.toNat).flatMap numsR⟩ else ⟨0,0,tNo,(s.W o.level.toNat).flatMap numsN⟩):=fun b hb=>by
  simp only [stepAns,k1,k2,k3,k4,kx,if_false,hb]
 have mid:∀ {w1 w2:World},Below w.heap.size w w1→w.heap.size+1<w1.heap.size→Below w1.heap.size w1 w2→Mid B w g c p k s w2:=fun {w1 w2} hb hs hb2=>⟨w1,hb,hs,PRes.same (h.below hb) hb2⟩
 by_cases k5:o.kind=5
 ·rw [show stepSt c s o=s by simp [stepSt,k5]]
  refine (does_view g o (fun w2 r code=>(r=(stepAns c s o).s∧code=(stepAns c s o).e∧(stepAns c s o).n=0∧(stepAns c s o).l=[])∧Mid B w g c p k s w2) w k5 (fun w1 hb hs=>?_)).mono ?_
  ·cases hlv:okL c.labels o.level
   ·refine (dcView_no g _ _ _ _ _ _ _ o.level w1 (h.own.below hb).box (by rw [h.okL];exact hlv)).mono ?_
    rintro e w2 ⟨rfl,hb2⟩
    rw [ke _ hlv]
    exact⟨_,_,rfl,⟨⟨rfl,rfl,rfl,rfl⟩,mid hb hs hb2⟩,fun j _ hj=>hb2.block j hj⟩
   ·obtain⟨lv,hlv1,hlv2⟩:=okL_nat' hn hlv
    have h':=h.below hb
    rw [hlv1]
    refine (dcView_ok c s.row g _ _ p.rv p.pv _ _ _ B lv w1 h'.own.box h'.own.rules h'.own.cells rfl rfl h.right h.rowGood hlv2).mono ?_
    rintro e w2 ⟨rfl,hb2⟩
    rw [show stepAns c s o=⟨0,0,viewT (placesR c s.row lv),[]⟩ by rw [ke _ hlv,hlv1,k5];rfl]
    exact⟨_,_,rfl,⟨⟨rfl,rfl,rfl,rfl⟩,mid hb hs hb2⟩,fun j _ hj=>hb2.block j hj⟩
  ·rintro e w' ⟨r,code,w2,rfl,⟨⟨rfl,rfl,e3,e4⟩,hm⟩,ho⟩
   rw [e3,e4]
   exact⟨_,rfl,OwnL.nil _ _ _ _ _,Mid.told h hm ho⟩
 by_cases k6:o.kind=6
 ·rw [show stepSt c s o=s by simp [stepSt,k6]]
  refine (does_spans g o (fun w2 _ l code=>(l.flatMap nums3=(stepAns c s o).l∧code=(stepAns c s o).e∧(stepAns c s o).n=0∧(stepAns c s o).s=tNo)∧Mid B w g c p k s w2) w k6 (fun w1 hb hs=>?_)).mono ?_
  ·cases hlv:okL c.labels o.level
   ·refine (dcSpans_no g _ _ _ _ _ _ _ o.level w1 (h.own.below hb).box (by rw [h.okL];exact hlv)).mono ?_
    rintro e w2 ⟨rfl,hb2⟩
    rw [ke _ hlv]
    exact⟨_,[],_,rfl,⟨⟨rfl,rfl,rfl,rfl⟩,mid hb hs hb2⟩,(OwnL.nil 94 3 s3V w2 0).seqV (fun _=>rfl),Nat.zero_le _,hb2.size,fun j _ hj=>hb2.block j hj⟩
   ·obtain⟨lv,hlv1,hlv2⟩:=okL_nat' hn hlv
    have h':=h.below hb
    rw [hlv1]
    refine (dcSpans_ok c s.row g _ _ p.rv p.pv _ _ _ B lv w1 h'.own.box h'.own.rules h'.own.cells rfl rfl h.right h.rowGood hlv2).mono ?_
    rintro e w2 ⟨vl,rfl,ho,hb2⟩
    have ho3:OwnL 94 3 s3V w2 w1.heap.size vl (spansL c s.row lv):=own_map3 ho sp3 (fun _=>rfl)
    rw [show stepAns c s o=⟨0,0,tNo,(spansL c s.row lv).flatMap nums3⟩ by rw [ke _ hlv,hlv1,k6];rfl]
    refine⟨_,spansL c s.row lv,_,rfl,⟨⟨rfl,rfl,rfl,rfl⟩,mid hb hs hb2⟩,ho3.seqV (fun _=>rfl),?_,hb2.size,fun j _ hj=>hb2.block j hj⟩
    unfold spansL
    rw [List.length_map]
    have h1:=viewT_len c s.row lv h.rowGood
    have h2:=spansTo_length (viewT (placesR c s.row lv)) (viewT (placesR c s.row lv)).size
    omega
  ·rintro e w' ⟨v,l,code,vl,w2,w3,rfl,⟨⟨e1,rfl,e3,e4⟩,hm⟩,hs,ho,hb3,hon⟩
   rw [e3,e4,← e1]
   exact⟨_,rfl,told_own ho hs hon,Mid.told h (hm.then hb3) hon⟩
 by_cases k7:o.kind=7
 ·rw [show stepSt c s o=s by simp [stepSt,k7]]
  refine (does_left g o (fun w2 r code=>(r=(stepAns c s o).n∧code=(stepAns c s o).e∧(stepAns c s o).s=tNo∧(stepAns c s o).l=[])∧Mid B w g c p k s w2) w k7 (fun w1 hb hs=>?_)).mono ?_
  ·cases hlv:okL c.labels o.level
   ·refine (dcLeft_no g _ _ _ _ _ _ _ o.level w1 (h.own.below hb).box (by rw [h.okL];exact hlv)).mono ?_
    rintro e w2 ⟨rfl,hb2⟩
    rw [ke _ hlv]
    exact⟨_,_,rfl,⟨⟨rfl,rfl,rfl,rfl⟩,mid hb hs hb2⟩,fun j _ hj=>hb2.block j hj⟩
   ·obtain⟨lv,hlv1,hlv2⟩:=okL_nat' hn hlv
    have h':=h.below hb
    rw [hlv1]
    refine (dcLeft_ok g _ _ p.rv p.pv _ _ _ lv w1 h'.own.box h.n6 hlv2 (h.good.quota lv)).mono ?_
    rintro e w2 ⟨rfl,hb2⟩
    rw [show stepAns c s o=⟨0,200-(ownC s.row lv:Int),tNo,[]⟩ by rw [ke _ hlv,hlv1,k7];rfl]
    exact⟨_,_,rfl,⟨⟨rfl,rfl,rfl,rfl⟩,mid hb hs hb2⟩,fun j _ hj=>hb2.block j hj⟩
  ·rintro e w' ⟨r,code,w2,rfl,⟨⟨rfl,rfl,e3,e4⟩,hm⟩,ho⟩
   rw [e3,e4]
   exact⟨_,rfl,OwnL.nil _ _ _ _ _,Mid.told h hm ho⟩
 by_cases k8:o.kind=8
 ·rw [show stepSt c s o=s by simp [stepSt,k8]]
  refine (does_version g o (fun w2 r code=>(r=(stepAns c s o).n∧code=(stepAns c s o).e∧(stepAns c s o).s=tNo∧(stepAns c s o).l=[])∧Mid B w g c p k s w2) w k8 (fun w1 hb hs=>?_)).mono ?_
  ·cases hlv:okL c.labels o.level
   ·refine (dcVersion_no g _ _ _ _ _ _ _ o.level w1 (h.own.below hb).box (by rw [h.okL];exact hlv)).mono ?_
    rintro e w2 ⟨rfl,hb2⟩
    rw [ke _ hlv]
    exact⟨_,_,rfl,⟨⟨rfl,rfl,rfl,rfl⟩,mid hb hs hb2⟩,fun j _ hj=>hb2.block j hj⟩
   ·obtain⟨lv,hlv1,hlv2⟩:=okL_nat' hn hlv
    have h':=h.below hb
    rw [hlv1]
    refine (dcVersion_ok h'.own h.n6 lv hlv2).mono ?_
    rintro e w2 ⟨rfl,hb2⟩
    rw [show stepAns c s o=⟨0,(s.V lv:Int),tNo,[]⟩ by rw [ke _ hlv,hlv1,k8];rfl]
    exact⟨_,_,rfl,⟨⟨rfl,rfl,rfl,rfl⟩,mid hb hs hb2⟩,fun j _ hj=>hb2.block j hj⟩
  ·rintro e w' ⟨r,code,w2,rfl,⟨⟨rfl,rfl,e3,e4⟩,hm⟩,ho⟩
   rw [e3,e4]
   exact⟨_,rfl,OwnL.nil _ _ _ _ _,Mid.told h hm ho⟩
 by_cases k9:o.kind=9
 ·rw [show stepSt c s o=s by simp [stepSt,k9]]
  refine (does_log g o (fun w2 _ l code=>(l.flatMap numsR=(stepAns c s o).l∧code=(stepAns c s o).e∧(stepAns c s o).n=0∧(stepAns c s o).s=tNo)∧Mid B w g c p k s w2) w k9 (fun w1 hb hs=>?_)).mono ?_
  ·cases hlv:okL c.labels o.level
   ·refine (dcLog_no g _ _ _ _ _ _ _ o.level w1 (h.own.below hb).box (by rw [h.okL];exact hlv)).mono ?_
    rintro e w2 ⟨rfl,hb2⟩
    rw [ke _ hlv]
    exact⟨_,[],_,rfl,⟨⟨rfl,rfl,rfl,rfl⟩,mid hb hs hb2⟩,(OwnL.nil 97 3 recV w2 0).seqV (fun _=>rfl),Nat.zero_le _,hb2.size,fun j _ hj=>hb2.block j hj⟩
   ·obtain⟨lv,hlv1,hlv2⟩:=okL_nat' hn hlv
    have h':=h.below hb
    rw [hlv1]
    refine (dcLog_ok h'.own h.n6 lv hlv2 (h.lok lv hlv2)).mono ?_
    rintro e w2 ⟨vl,rfl,ho,hb2⟩
    rw [show stepAns c s o=⟨0,0,tNo,(s.L lv).flatMap numsR⟩ by rw [ke _ hlv,hlv1,k9];rfl]
    exact⟨_,s.L lv,_,rfl,⟨⟨rfl,rfl,rfl,rfl⟩,mid hb hs hb2⟩,ho.seqV (fun _=>rfl),Nat.le_trans (h.lok lv hlv2) (by decide),hb2.size,fun j _ hj=>hb2.block j hj⟩
  ·rintro e w' ⟨v,l,code,vl,w2,w3,rfl,⟨⟨e1,rfl,e3,e4⟩,hm⟩,hs,ho,hb3,hon⟩
   rw [e3,e4,← e1]
   exact⟨_,rfl,told_own ho hs hon,Mid.told h (hm.then hb3) hon⟩
 have k10:o.kind=10:=by omega
 refine (does_poll g o (fun w2 _ l code=>(l.flatMap numsN=(stepAns c s o).l∧code=(stepAns c s o).e∧(stepAns c s o).n=0∧(stepAns c s o).s=tNo)∧Mid B w g c p k (stepSt c s o) w2) w k10 (fun w1 hb hs=>?_)).mono ?_
 ·cases hlv:okL c.labels o.level
  ·rw [show stepSt c s o=s by simp [stepSt,k10,hlv]]
   refine (dcPoll_no g _ _ _ _ _ _ _ o.level w1 (h.own.below hb).box (by rw [h.okL];exact hlv)).mono ?_
   rintro e w2 ⟨rfl,hb2⟩
   rw [ke _ hlv]
   exact⟨_,[],_,rfl,⟨⟨rfl,rfl,rfl,rfl⟩,mid hb hs hb2⟩,(OwnL.nil 100 2 noV w2 0).seqV (fun _=>rfl),Nat.zero_le _,hb2.size,fun j _ hj=>hb2.block j hj⟩
  ·rw [show stepSt c s o=⟨s.row,s.L,s.V,updF s.W o.level.toNat []⟩ by simp [stepSt,k10,hlv]]
   obtain⟨lv,hlv1,hlv2⟩:=okL_nat' hn hlv
   have h':=h.below hb
   rw [hlv1]
   refine (dcPoll_ok h'.own h.n6 lv hlv2 (h.wok lv hlv2).len).mono ?_
   rintro e w2 ⟨vl,p',rfl,ho,hd,hst,_⟩
   have hr:PRes B w1 g c p k ⟨s.row,s.L,s.V,updF s.W lv []⟩ w2:=⟨p',⟨hd,h.right,h.good.mono (Nat.le_succ k),h.no35,fun i hi=>by
    by_cases hil:i=lv
    ·subst hil;show WOk (updF s.W i [] i);rw [updF_same];exact WOk.nil
    ·show WOk (updF s.W lv [] i);rw [updF_other _ _ hil];exact h.wok i hi,h.lok,fun i hi=>Nat.le_trans (h.ver i hi) (Nat.le_succ k),Nat.le_trans h'.old hst.1.size⟩,hst⟩
   rw [show stepAns c s o=⟨0,0,tNo,(s.W lv).flatMap numsN⟩ by rw [ke _ hlv,hlv1,k10];rfl]
   exact⟨_,s.W lv,_,rfl,⟨⟨rfl,rfl,rfl,rfl⟩,w1,hb,hs,hr⟩,ho.seqV (fun _=>rfl),Nat.le_trans (h.wok lv hlv2).len (by decide),hst.1.size,PRes.keep h hr⟩
 ·rintro e w' ⟨v,l,code,vl,w2,w3,rfl,⟨⟨e1,rfl,e3,e4⟩,hm⟩,hs,ho,hb3,hon⟩
  rw [e3,e4,← e1]
  exact⟨_,rfl,told_own ho hs hon,Mid.told h (hm.then hb3) hon⟩
end
end Go.Proofs.YtgigkiocdiffjaaGreat
namespace Go.Proofs.YtgigkiocdiffjaaGreat
open Go.RowKit Veil
def Two (F:Nat→Prop) (B:Nat) (w:World) (ga gb:Nat) (c:Cfg) (s s':PSt) (ka kb:Nat):Prop:=
 ∃ pa pb,PInv B w ga c s pa ka∧PInv B w gb c s' pb kb∧(∀ x i j,pblk c.n ga pa i=some x→pblk c.n gb pb j=some x→False)∧∀ x,F x→x<w.heap.size∧(∀ i,pblk c.n ga pa i=some x→False)∧∀ j,pblk c.n gb pb j=some x→False
structure LeftF (F:Nat→Prop) (B:Nat) (w w':World):Prop where
 low:Below B w w'
 kept:∀ x,F x→w'.heap[x]?=w.heap[x]?
section
variable {F F':Nat→Prop} {B ga gb ka kb g k:Nat} {w w' w'':World} {c:Cfg} {s s' s1:PSt} {p:PV}
theorem LeftF.refl (F:Nat→Prop) (B:Nat) (w:World):LeftF F B w w:=⟨Below.refl _ _,fun _ _=>rfl⟩
theorem LeftF.trans (h:LeftF F B w w') (h':LeftF F B w' w''):LeftF F B w w'':=⟨h.low.trans h'.low,fun x hx=>(h'.kept x hx).trans (h.kept x hx)⟩
theorem LeftF.sub (h:LeftF F B w w') (hF:∀ x,F' x→F x):LeftF F' B w w':=⟨h.low,fun x hx=>h.kept x (hF x hx)⟩
theorem LeftF.below (hb:Below w.heap.size w w') (hB:B≤w.heap.size) (hF:∀ x,F x→x<w.heap.size):LeftF F B w w':=⟨hb.mono hB,fun x hx=>hb.block x (hF x hx)⟩
theorem Two.below (h:Two F B w ga gb c s s' ka kb) (hb:Below w.heap.size w w'):Two F B w' ga gb c s s' ka kb:=by
 obtain⟨pa,pb,h1,h2,h3,h4⟩:=h
 exact⟨pa,pb,h1.below hb,h2.below hb,h3,fun x hx=>⟨Nat.lt_of_lt_of_le (h4 x hx).1 hb.size,(h4 x hx).2⟩⟩
theorem Two.sub (h:Two F B w ga gb c s s' ka kb) (hF:∀ x,F' x→F x):Two F' B w ga gb c s s' ka kb:=by
 obtain⟨pa,pb,h1,h2,h3,h4⟩:=h
 exact⟨pa,pb,h1,h2,h3,fun x hx=>h4 x (hF x hx)⟩
theorem Two.new (h:Two F B w ga gb c s s' ka kb) (hb:Below w.heap.size w w') (hF:∀ x,F' x→F x∨(w.heap.size≤x∧x<w'.heap.size)):Two F' B w' ga gb c s s' ka kb:=by
 obtain⟨pa,pb,h1,h2,h3,h4⟩:=h
 refine⟨pa,pb,h1.below hb,h2.below hb,h3,fun x hx=>?_⟩
 rcases hF x hx with h5|h5
 ·exact⟨Nat.lt_of_lt_of_le (h4 x h5).1 hb.size,(h4 x h5).2⟩
 ·refine⟨h5.2,fun i hi=>?_,fun j hj=>?_⟩
  ·have:=(h1.own.low i x hi).2
   omega
  ·have:=(h2.own.low j x hj).2
   omega
theorem Two.old (h:Two F B w ga gb c s s' ka kb):B≤w.heap.size:=by
 obtain⟨pa,pb,h1,h2,h3,h4⟩:=h
 exact h1.old
theorem Two.lt (h:Two F B w ga gb c s s' ka kb):∀ x,F x→x<w.heap.size:=by
 obtain⟨pa,pb,h1,h2,h3,h4⟩:=h
 exact fun x hx=>(h4 x hx).1
theorem Two.right (h:Two F B w ga gb c s s' ka kb):CfgRight c:=by
 obtain⟨pa,pb,h1,h2,h3,h4⟩:=h
 exact h1.right
theorem PRes.low (h:PInv B w g c s p k) (hr:PRes B w g c p k s1 w'):Below B w w':=by
 obtain⟨p',h1,h2⟩:=hr
 exact h2.1.below (fun x ⟨a,ha⟩=>(h.own.low a x ha).1) h.old
theorem PRes.left (h:PInv B w g c s p k) (hF:∀ x,F x→x<w.heap.size∧∀ i,pblk c.n g p i=some x→False) (hr:PRes B w g c p k s1 w'):LeftF F B w w':=by
 refine⟨PRes.low h hr,fun x hx=>?_⟩
 obtain⟨p',h1,h2⟩:=hr
 exact h2.1.block x (hF x hx).1 (fun ⟨a,ha⟩=>(hF x hx).2 a ha)
end
end Go.Proofs.YtgigkiocdiffjaaGreat
namespace Go.Proofs.YtgigkiocdiffjaaGreat
open Veil
def sigC (c:Cfg) (z:Nat) (x:RC):RC:=⟨x.b,x.origin,x.marks.filter fun m=>c.le m.level z⟩
def pur (c:Cfg) (z:Nat) (row:List RC):List RC:=(row.filter fun x=>c.le x.origin z).map (sigC c z)
def rk (c:Cfg) (z:Nat) (row:List RC) (r:Nat):Nat:=((row.take r).filter fun x=>c.le x.origin z).length
def renP (f:Nat→Nat) (p:Pl):Pl:=⟨p.b,f p.first,f p.last⟩
def renS (f:Nat→Nat) (s:Se):Se:=⟨f s.num,s.b,s.hid,s.free⟩
structure Tr (c:Cfg):Prop where
 trans:∀ {a b d:Nat},a<c.n→b<c.n→c.le a b=true→c.le b d=true→c.le a d=true
theorem new_form {s:ByteArray} {lv k:Nat} {x:RC} (h:x ∈ newC s lv k):∃ b:Nat,x=⟨b,lv,[]⟩:=by
 unfold newC newTo at h
 simp only [List.map_map,List.mem_map] at h
 obtain⟨j,_,rfl⟩:=h
 exact⟨_,rfl⟩
section
variable {c:Cfg} {z d:Nat} {row:List RC}
theorem pur_append (a b:List RC):pur c z (a++b)=pur c z a++pur c z b:=by simp [pur]
theorem pur_one (x:RC):pur c z [x]=bif c.le x.origin z then [sigC c z x] else []:=by
 unfold pur
 cases h:c.le x.origin z <;> simp [h]
theorem rk_zero:rk c z row 0=0:=by simp [rk]
theorem rk_append {b:List RC} {r:Nat} (h:r≤row.length):rk c z (row++b) r=rk c z row r:=by
 unfold rk
 rw [List.take_append_of_le_length h]
theorem pur_length:(pur c z row).length=rk c z row row.length:=by simp [pur,rk]
theorem cellAt_append {b:List RC} {r:Nat} (h:r<row.length):cellAt (row++b) r=cellAt row r:=by
 unfold cellAt
 rw [List.getD,List.getD,List.getElem?_append_left h]
theorem cellAt_last (x:RC):cellAt (row++[x]) row.length=x:=by
 unfold cellAt
 rw [List.getD,List.getElem?_append_right (Nat.le_refl _)]
 simp
theorem there_sig (ht:Tr c) (hd:d<c.n) (hdz:c.le d z=true) {x:RC} (hx:RCOk c x):thereB c (sigC c z x) d=thereB c x d:=by
 have:(x.marks.filter fun m=>c.le m.level z).any (goneB c d)=x.marks.any (goneB c d):=by
  rw [List.any_filter,Bool.eq_iff_iff,List.any_eq_true,List.any_eq_true]
  constructor
  ·rintro ⟨m,h1,h2⟩
   exact⟨m,h1,(Bool.and_eq_true_iff.1 h2).2⟩
  ·rintro ⟨m,h1,h2⟩
   refine⟨m,h1,Bool.and_eq_true_iff.2 ⟨?_,h2⟩⟩
   unfold goneB at h2
   exact ht.trans (hx.marks m h1).level hd (Bool.and_eq_true_iff.1 h2).2 hdz
 unfold thereB sigC
 rw [this]
theorem seen_sig (ht:Tr c) (hd:d<c.n) (hdz:c.le d z=true) {x:RC} (hx:RCOk c x):seenF c (sigC c z x) d=seenF c x d:=by
 unfold seenF sigC
 have key:∀ (l:List Mk) (s:Nat × Bool),(∀ m,m ∈ l→MkOk c m)→(l.filter fun m=>c.le m.level z).foldl (seenS c x.origin d) s=l.foldl (seenS c x.origin d) s:=by
  intro l
  induction l with
  | nil=>intro s _;rfl
  | cons m l ih=>
   intro s hl
   have hl':∀ m,m ∈ l→MkOk c m:=fun m hm=>hl m (List.mem_cons_of_mem _ hm)
   cases hz:c.le m.level z
   ·rw [List.filter_cons_of_neg (by simp [hz]),List.foldl_cons,ih _ hl']
    have:seenS c x.origin d s m=s:=by
     unfold seenS
     cases hmd:c.le m.level d
     ·rfl
     ·have:=ht.trans (hl m (List.mem_cons_self)).level hd hmd hdz
      rw [hz] at this
      cases this
    rw [this]
   ·rw [List.filter_cons_of_pos (by simp [hz]),List.foldl_cons,List.foldl_cons,ih _ hl']
 exact key _ _ hx.marks
theorem there_le (ht:Tr c) (hd:d<c.n) (hdz:c.le d z=true) {x:RC} (hx:RCOk c x) (h:thereB c x d=true):c.le x.origin z=true:=by
 unfold thereB at h
 exact ht.trans hx.origin hd (Bool.and_eq_true_iff.1 h).2 hdz
theorem firstTo_snoc (x:RC):firstTo c (row++[x]) d (row++[x]).length=firstTo c row d row.length++(bif thereB c x d then [⟨row.length,x.b,!c.le (seenF c x d).1 d,(seenF c x d).2⟩] else []):=by
 have h1:atTo c (row++[x]) d row.length=atTo c row d row.length:=by
  unfold atTo
  apply List.filter_congr
  intro r hr
  rw [cellAt_append (List.mem_range.1 hr)]
 have h2:(atTo c row d row.length).map (seC c (row++[x]) d)=(atTo c row d row.length).map (seC c row d):=by
  apply List.map_congr_left
  intro r hr
  unfold seC byF hidR
  rw [cellAt_append (atTo_lt hr)]
 have h3:(row++[x]).length=row.length+1:=by simp
 unfold firstTo
 rw [h3]
 cases hx:thereB c x d
 ·rw [atTo_no (by rw [cellAt_last];exact hx),h1,h2];simp
 ·rw [atTo_yes (by rw [cellAt_last];exact hx),h1,List.map_append,h2]
  simp only [List.map_cons,List.map_nil,cond_true,seC,byF,hidR,cellAt_last]
theorem firstTo_num (s:Se) (hs:s ∈ firstTo c row d row.length):s.num<row.length∧thereB c (cellAt row s.num) d=true:=by
 unfold firstTo at hs
 obtain⟨r,hr,rfl⟩:=List.mem_map.1 hs
 unfold atTo at hr
 rw [List.mem_filter,List.mem_range] at hr
 exact hr
theorem first_pur (ht:Tr c) (hd:d<c.n) (hdz:c.le d z=true):∀ (n:Nat) (row:List RC),row.length=n→(∀ x,x ∈ row→RCOk c x)→firstTo c (pur c z row) d (pur c z row).length=(firstTo c row d row.length).map (renS (rk c z row)):=by
 intro n
 induction n with
 | zero=>
  intro row hl _
  obtain rfl:=List.eq_nil_of_length_eq_zero hl
  rfl
 | succ n ih=>
  intro row hl hok
  rcases List.eq_nil_or_concat row with rfl|⟨row',x,rfl⟩
  ·cases hl
  ·rw [List.concat_eq_append] at *
   have hl':row'.length=n:=by simpa using hl
   have hx:=hok x (by simp)
   have ih':=ih row' hl' (fun y hy=>hok y (by simp [hy]))
   have hren:(firstTo c row' d row'.length).map (renS (rk c z (row'++[x])))=(firstTo c row' d row'.length).map (renS (rk c z row')):=by
    apply List.map_congr_left
    intro s hs
    unfold renS
    rw [rk_append (Nat.le_of_lt (firstTo_num s hs).1)]
   rw [pur_append,pur_one,firstTo_snoc,List.map_append,hren,← ih']
   cases hq:c.le x.origin z
   ·have hth:thereB c x d=false:=by
     cases h:thereB c x d
     ·rfl
     ·rw [there_le ht hd hdz hx h] at hq;cases hq
    simp [hth]
   ·simp only [cond_true]
    rw [firstTo_snoc,there_sig ht hd hdz hx,seen_sig ht hd hdz hx]
    cases hth:thereB c x d
    ·simp
    ·simp only [cond_true,List.map_cons,List.map_nil,renS]
     rw [pur_length,rk_append (Nat.le_refl _)]
     rfl
theorem lastTo_ren (f:Nat→Nat) (l:List Pl) (x:Nat):lastTo (l.map (renP f)) (f x)=(lastTo l x).map (renP f):=by
 rcases List.eq_nil_or_concat l with rfl|⟨l',p,rfl⟩
 ·rfl
 ·rw [List.concat_eq_append,lastTo_set (l:=l'++[p]) (n:=l'.length) (p:=p) (by simp) (by simp),lastTo_set (l:=(l'++[p]).map (renP f)) (n:=l'.length) (p:=renP f p) (by simp) (by simp)]
  simp [renP]
theorem lastB_ren (f:Nat→Nat) (l:List Pl):lastB (l.map (renP f))=lastB l:=by
 rcases List.eq_nil_or_concat l with rfl|⟨l',p,rfl⟩
 ·rfl
 ·rw [List.concat_eq_append,List.map_append,List.map_cons,List.map_nil,lastB_snoc,lastB_snoc]
  rfl
theorem joinTo_ren (f:Nat→Nat) (A M:Nat→Nat):∀ k,joinTo (fun j=>f (A j)) M k=(joinTo A M k).map (renP f)
 | 0=>rfl
 | k+1=>by
  rw [joinTo,joinTo,joinTo_ren f A M k,lastB_ren]
  cases lastB (joinTo A M k) && (M k == 35)
  ·simp [renP]
  ·exact lastTo_ren f _ _
theorem seAt_ren (f:Nat→Nat) (h0:f 0=0) (S:List Se) (j:Nat):seAt (S.map (renS f)) j=renS f (seAt S j):=by
 unfold seAt
 rw [List.getD,List.getD,List.getElem?_map]
 cases S[j]? with
 | none=>simp [renS,h0]
 | some s=>rfl
theorem placesP_ren (f:Nat→Nat) (h0:f 0=0) (S:List Se) (ps:List ByteArray):placesP (S.map (renS f)) ps=(placesP S ps).map (renP f):=by
 have h1:seeB (S.map (renS f))=seeB S:=by
  funext j
  unfold seeB
  rw [seAt_ren f h0]
  rfl
 have h2:seeT (S.map (renS f))=seeT S:=by unfold seeT;rw [h1,List.length_map]
 have h3:maskedF (S.map (renS f)) (seeB S) (struckL (seeT S) ps)=maskedF S (seeB S) (struckL (seeT S) ps):=by
  funext j
  unfold maskedF
  rw [seAt_ren f h0]
  rfl
 unfold placesP
 rw [h1,h2,h3,List.length_map,← joinTo_ren]
 congr 1
 funext j
 rw [seAt_ren f h0]
 rfl
theorem pur_good (h:RowGood c row):RowGood c (pur c z row):=by
 refine⟨fun x hx=>?_,?_⟩
 ·unfold pur at hx
  obtain⟨y,hy,rfl⟩:=List.mem_map.1 hx
  have hy':=h.cells y (List.mem_filter.1 hy).1
  exact⟨⟨hy'.1.byte,hy'.1.origin,fun m hm=>hy'.1.marks m (List.mem_filter.1 hm).1⟩,hy'.2⟩
 ·unfold pur
  rw [List.length_map]
  exact Nat.le_trans (List.length_filter_le _ _) h.length
theorem places_pur (ht:Tr c) (hd:d<c.n) (hdz:c.le d z=true) (h:RowGood c row):placesR c (pur c z row) d=(placesR c row d).map (renP (rk c z row)):=by
 rw [← places_same c row d h.by (fun r _=>h.no r),← places_same c (pur c z row) d (pur_good h).by (fun r _=>(pur_good h).no r),first_pur ht hd hdz _ row rfl (fun x hx=>(h.cells x hx).1),placesP_ren _ rk_zero]
end
end Go.Proofs.YtgigkiocdiffjaaGreat
namespace Go.Proofs.YtgigkiocdiffjaaGreat
open Veil
section
variable {c:Cfg} {z d:Nat} {row:List RC}
theorem view_ren (f:Nat→Nat) (P:List Pl):viewT (P.map (renP f))=viewT P:=by
 unfold viewT
 rw [List.length_map]
 congr 1
 funext j
 unfold plB
 rw [List.getD,List.getD,List.getElem?_map]
 cases P[j]? <;> rfl
end
end Go.Proofs.YtgigkiocdiffjaaGreat
namespace Go.Proofs.YtgigkiocdiffjaaGreat
open Veil
structure Pur (c:Cfg) (z:Nat) (s s':PSt):Prop where
 row:s'.row=pur c z s.row
 logs:∀ i:Nat,c.le i z=true→s'.L i=s.L i
 vers:∀ i,i<c.n→c.le i z=true→s'.V i=s.V i
 waits:∀ i,i<c.n→c.le i z=true→s'.W i=s.W i
section
variable {c:Cfg} {z lv:Nat} {s s':PSt}
theorem Pur.len (h:Pur c z s s') (ht:Tr c) (hl:lv<c.n) (hlz:c.le lv z=true) (hg:RowGood c s.row):(placesR c s'.row lv).length=(placesR c s.row lv).length:=by
 rw [h.row,places_pur ht hl hlz hg,List.length_map]
theorem Pur.view (h:Pur c z s s') (ht:Tr c) (hl:lv<c.n) (hlz:c.le lv z=true) (hg:RowGood c s.row):viewT (placesR c s'.row lv)=viewT (placesR c s.row lv):=by
 rw [h.row,places_pur ht hl hlz hg,view_ren]
theorem piece_of {a b:Int} {m:Nat} (h:pieceB a b m=true):a.toNat<b.toNat∧b.toNat≤m:=by
 unfold pieceB at h
 simp only [Bool.and_eq_true,decide_eq_true_eq] at h
 omega
theorem cond_zero {b:Bool} {x y:Int} (hx:x≠0) (h:(bif b then x else y)=0):b=false∧y=0:=by
 cases b
 ·exact⟨rfl,h⟩
 ·exact absurd h hx
theorem ins_codes {level a:Int} {t:ByteArray} {row:List RC} (h:insCode c row level a t=0):a.toNat≤(placesR c row level.toNat).length∧okL c.labels level=true:=by
 unfold insCode at h
 obtain⟨h1,h⟩:=cond_zero (by decide) h
 obtain⟨h2,h⟩:=cond_zero (by decide) h
 simp only [Bool.or_eq_false_iff,decide_eq_false_iff_not] at h2
 exact⟨by omega,by simpa using h1⟩
theorem del_codes {level a b:Int} {row:List RC} (h:delCode c row level a b=0):(a.toNat<b.toNat∧b.toNat≤(placesR c row level.toNat).length)∧okL c.labels level=true:=by
 unfold delCode at h
 obtain⟨h1,h⟩:=cond_zero (by decide) h
 obtain⟨h2,h⟩:=cond_zero (by decide) h
 exact⟨piece_of (by simpa using h2),by simpa using h1⟩
theorem rai_codes {level a b lb:Int} {row:List RC} (h:raiCode c row level a b lb=0):(a.toNat<b.toNat∧b.toNat≤(placesR c row level.toNat).length)∧okL c.labels level=true:=by
 unfold raiCode at h
 obtain⟨h1,h⟩:=cond_zero (by decide) h
 obtain⟨h2,h⟩:=cond_zero (by decide) h
 refine⟨piece_of (by simpa using h2),?_⟩
 simp only [Bool.or_eq_false_iff] at h1
 simpa using h1.1
theorem rel_codes {level a b tg:Int} (h:relCode c s level a b tg=0):(a.toNat<b.toNat∧b.toNat≤(placesR c s.row level.toNat).length)∧okL c.labels level=true∧okL c.labels tg=true∧grF c level.toNat tg.toNat=true:=by
 unfold relCode at h
 obtain⟨h1,h⟩:=cond_zero (by decide) h
 obtain⟨h2,h⟩:=cond_zero (by decide) h
 obtain⟨h3,h⟩:=cond_zero (by decide) h
 simp only [Bool.or_eq_false_iff] at h1
 exact⟨piece_of (by simpa using h3),by simpa using h1.1,by simpa using h1.2,by simpa using h2⟩
theorem okL_nt (hn:(c.n:Int)=c.labels) {a:Int} (h:okL c.labels a=true):a.toNat<c.n∧a=(a.toNat:Int):=by
 unfold okL at h
 simp only [Bool.and_eq_true,decide_eq_true_eq] at h
 omega
end
end Go.Proofs.YtgigkiocdiffjaaGreat
