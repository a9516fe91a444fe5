import Derived.Test.YtgigkiocdiffjaaGreatS03
import Derived.Test.YtgigkiocdiffjaaGreatS01
set_option maxRecDepth 100000
set_option maxHeartbeats 16000000
namespace Go.Proofs.YtgigkiocdiffjaaGreat
open Go.RowKit Veil
theorem rCheck_any (c:Cfg) (v:CfgV) (w:World) (hok:CfgOk c) (hat:CfgAt w c v) :
  Calls Tryz.prog 52 #[.agg (cfgCells c v)] w fun e w'=>∃ code,e=.returned (.int .i64 code)∧CheckIs c code∧Below w.heap.size w w':=by
 have HR0:=hide (fun w' (hb:Below w.heap.size w w')=>rlabels_any c v w' hok (hat.below hb))
 have HR1:=hide (fun w' (hb:Below w.heap.size w w')=>rrules_any c v w' hok (hat.below hb))
 cases hl:labelsB c
 ·have HL:=hide hl
  have HB1:=hide (below_box w (.cells (cfgCells c v) 31))
  clear hl hat hok
  unfold cfgCells at *
  go_enter Tryz.func52,Tryz.ntmps52
  go_wp2_with fail
  refine (HR0.out _ HB1.out).mono ?_
  rintro e w1 ⟨rfl,hb1⟩
  rw [HL.out]
  have hbel1:=HB1.out.trans (hb1.mono (by simp))
  clear hb1
  go_wp2
  go_ret
  exact⟨1,rfl,⟨fun _=>rfl,fun h=>absurd h (by rw [HL.out];simp),fun h=>absurd h (by rw [HL.out];simp),fun h=>absurd h (by rw [HL.out];simp),fun h=>absurd h (by rw [HL.out];simp),fun h=>absurd h (by rw [HL.out];simp)⟩,hbel1⟩
 obtain⟨_,_,_,_,hn,hn6,hn1⟩:=labels_of hl
 have hle1:(c.n:Int)≤c.labels:=by omega
 have hle2:c.labels≤(c.n:Int):=by omega
 have HR2:=hide (fun w' (hb:Below w.heap.size w w')=>rgrants_any c v w' hl hok (hat.below hb))
 have HQ:=hide (fun (x y:Nat) (w':World) (hx:x<c.n) (hy:y<c.n) (hb:Below w.heap.size w w')=>rleq_any c v x y w' hl (hat.below hb) hx hy)
 have HJ:=hide (fun (x y:Nat) (w':World) (hx:x<c.n) (hy:y<c.n) (hb:Below w.heap.size w w')=>rjoin_any c v x y w' hl (hat.below hb) hx hy)
 have HM:=hide (fun (x y:Nat) (w':World) (hx:x<c.n) (hy:y<c.n) (hb:Below w.heap.size w w')=>rmeet_any c v x y w' hl (hat.below hb) hx hy)
 have HL:=hide hl
 have HB1:=hide (below_box w (.cells (cfgCells c v) 31))
 have HX1:=hide (box_new w c v)
 clear hl hat hok hn
 unfold cfgCells at *
 go_enter Tryz.func52,Tryz.ntmps52
 go_wp2_with fail
 refine (HR0.out _ HB1.out).mono ?_
 rintro e w1 ⟨rfl,hb1⟩
 rw [HL.out]
 have hbel1:=HB1.out.trans (hb1.mono (by simp))
 have HX2:=hide (HX1.out.below hb1 (by simp))
 clear hb1
 go_wp2
 go_loopw [4] (fun i wr=>∃ a:Nat,a≤c.n∧i=.int .i64 a∧(∀ x y:Nat,x<a→y<c.n→x≠y→(c.le x y && c.le y x)=false)∧BoxAt wr w.heap.size c v∧Below w.heap.size w wr) (fun i _=>c.n-(intOf i).toNat)
 case atStart=>exact⟨0,Nat.zero_le _,rfl,fun x y hx=>absurd hx (Nat.not_lt_zero _),HX2.out,hbel1⟩
 case round=>
  obtain⟨wo,rfl⟩:∃ x,x=wr:=⟨_,rfl⟩
  obtain⟨a,ha,rfl,hno,hbox,hbel⟩:=hrel
  have HNO:=hide hno
  have HB:=hide hbox
  obtain⟨q0,q1,q2,q3⟩:=hbox.cells
  clear hno hbox
  by_cases hlt:a<c.n
  ·have hlt':(a:Int)<c.labels:=by omega
   go_wp2
   go_loopw [5] (fun i wr=>∃ b:Nat,b≤c.n∧i=.int .i64 b∧(∀ y:Nat,y<b→a≠y→(c.le a y && c.le y a)=false)∧BoxAt wr w.heap.size c v∧Below w.heap.size w wr) (fun i _=>c.n-(intOf i).toNat)
   case atStart=>exact⟨0,Nat.zero_le _,rfl,fun y hy=>absurd hy (Nat.not_lt_zero _),HB.out,hbel⟩
   case round=>
    obtain⟨wi,rfl⟩:∃ x,x=wr:=⟨_,rfl⟩
    obtain⟨b,hb,rfl,hnb,hbox,hbel2⟩:=hrel
    have HNB:=hide hnb
    have HB2:=hide hbox
    clear q0 q1 q2 q3
    obtain⟨q0,q1,q2,q3⟩:=hbox.cells
    clear hnb hbox
    by_cases hbl:b<c.n
    ·have hbl':(b:Int)<c.labels:=by omega
     by_cases hab:a=b
     ·have hne:((a:Int) != (b:Int))=false:=by simp [hab]
      have AB:=hide hab
      clear hab
      go_wp2
      go_roundw
      case rel=>exact⟨b+1,by omega,by go_num,fun y hy hy2=>by
       by_cases e:y=b
       ·exact absurd (AB.out.trans e.symm) hy2
       ·exact HNB.out y (by omega) hy2,HB2.out,hbel2⟩
      case measure=>simp [intOf];omega
     ·have hne:((a:Int) != (b:Int))=true:=by simp;omega
      have AB:=hide hab
      clear hab
      cases h1:c.le a b
      ·go_wp2_with fail
       refine (HQ.out a b _ hlt hbl hbel2).mono ?_
       rintro e w2 ⟨rfl,hb2⟩
       rw [h1]
       have HB3:=hide (HB2.out.below hb2 HB2.out.lt)
       have hbel3:=hbel2.trans (hb2.mono hbel2.size)
       have H1:=hide h1
       clear q0 q1 q2 q3 hb2 h1
       go_wp2
       go_roundw
       case rel=>exact⟨b+1,by omega,by go_num,fun y hy hy2=>by
        by_cases e:y=b
        ·rw [e,H1.out];rfl
        ·exact HNB.out y (by omega) hy2,HB3.out,hbel3⟩
       case measure=>simp [intOf];omega
      go_wp2_with fail
      refine (HQ.out a b _ hlt hbl hbel2).mono ?_
      rintro e w2 ⟨rfl,hb2⟩
      rw [h1]
      have HB3:=hide (HB2.out.below hb2 HB2.out.lt)
      obtain⟨p0,p1,p2,p3⟩:=HB3.out.cells
      have hbel3:=hbel2.trans (hb2.mono hbel2.size)
      have H1:=hide h1
      clear q0 q1 q2 q3 hb2 h1
      go_wp2_with fail
      refine (HQ.out b a _ hbl hlt hbel3).mono ?_
      rintro e w3 ⟨rfl,hb3⟩
      have HB4:=hide (HB3.out.below hb3 HB3.out.lt)
      have hbel4:=hbel3.trans (hb3.mono hbel3.size)
      clear p0 p1 p2 p3 hb3
      cases h2:c.le b a
      ·have H2:=hide h2
       clear h2
       go_wp2
       go_roundw
       case rel=>exact⟨b+1,by omega,by go_num,fun y hy hy2=>by
        by_cases e:y=b
        ·rw [e,H2.out];simp
        ·exact HNB.out y (by omega) hy2,HB4.out,hbel4⟩
       case measure=>simp [intOf];omega
      ·have H2:=hide h2
       clear h2
       have HC:Hid c.circle:=⟨a,b,hlt,hbl,AB.out,H1.out,H2.out⟩
       go_wp2
       go_ret
       exact⟨2,rfl,⟨fun h=>absurd h (by rw [HL.out];simp),fun _ _=>rfl,fun _ h=>absurd HC.out h,fun _ h=>absurd HC.out h,fun _ h=>absurd HC.out h,fun _ h=>absurd HC.out h⟩,hbel4⟩
    ·have hge:c.labels≤(b:Int):=by omega
     have hbe:b=c.n:=by omega
     have HNB2:=hide (show ∀ y:Nat,y<c.n→a≠y→(c.le a y && c.le y a)=false by rw [← hbe];exact HNB.out)
     clear hbe
     go_wp2
     go_roundw
     case rel=>exact⟨a+1,by omega,by go_num,fun x y hx hy hxy=>by
      by_cases e:x=a
      ·rw [e];exact HNB2.out y hy (by omega)
      ·exact HNO.out x y (by omega) hy hxy,HB2.out,hbel2⟩
     case measure=>simp [intOf];omega
  ·have hge:c.labels≤(a:Int):=by omega
   have hae:a=c.n:=by omega
   have HNC:Hid (¬ c.circle):=by
    rintro ⟨x,y,hx,hy,hxy,h1,h2⟩
    have:=HNO.out x y (by omega) hy hxy
    rw [h1,h2] at this
    simp at this
   clear hae
   go_wp2
   go_loopw [6] (fun i wr=>∃ a:Nat,a≤c.n∧i=.int .i64 a∧(∀ x y:Nat,x<a→y<c.n→0≤c.join x y∧0≤c.meet x y)∧BoxAt wr w.heap.size c v∧Below w.heap.size w wr) (fun i _=>c.n-(intOf i).toNat)
   case atStart=>exact⟨0,Nat.zero_le _,rfl,fun x y hx=>absurd hx (Nat.not_lt_zero _),HB.out,hbel⟩
   case round=>
    clear q0 q1 q2 q3 HB hbel hge hlt
    obtain⟨wo,rfl⟩:∃ x,x=wr:=⟨_,rfl⟩
    obtain⟨a,ha,rfl,hno,hbox,hbel⟩:=hrel
    have HNO2:=hide hno
    have HB:=hide hbox
    obtain⟨q0,q1,q2,q3⟩:=hbox.cells
    clear hno hbox
    by_cases hlt:a<c.n
    ·have hlt':(a:Int)<c.labels:=by omega
     go_wp2
     go_loopw [7] (fun i wr=>∃ b:Nat,b≤c.n∧i=.int .i64 b∧(∀ y:Nat,y<b→0≤c.join a y∧0≤c.meet a y)∧BoxAt wr w.heap.size c v∧Below w.heap.size w wr) (fun i _=>c.n-(intOf i).toNat)
     case atStart=>exact⟨0,Nat.zero_le _,rfl,fun y hy=>absurd hy (Nat.not_lt_zero _),HB.out,hbel⟩
     case round=>
      obtain⟨wi,rfl⟩:∃ x,x=wr:=⟨_,rfl⟩
      obtain⟨b,hb,rfl,hnb,hbox,hbel2⟩:=hrel
      have HNB:=hide hnb
      have HB2:=hide hbox
      clear q0 q1 q2 q3
      obtain⟨q0,q1,q2,q3⟩:=hbox.cells
      clear hnb hbox
      by_cases hbl:b<c.n
      ·have hbl':(b:Int)<c.labels:=by omega
       go_wp2_with fail
       refine (HJ.out a b _ hlt hbl hbel2).mono ?_
       rintro e w2 ⟨rfl,hb2⟩
       have HB3:=hide (HB2.out.below hb2 HB2.out.lt)
       obtain⟨p0,p1,p2,p3⟩:=HB3.out.cells
       have hbel3:=hbel2.trans (hb2.mono hbel2.size)
       clear q0 q1 q2 q3 hb2
       by_cases hj:c.join a b<0
       ·have HN2:Hid c.noLat:=⟨a,b,hlt,hbl,Or.inl hj⟩
        go_wp2
        go_ret
        exact⟨3,rfl,⟨fun h=>absurd h (by rw [HL.out];simp),fun _ h=>absurd h HNC.out,fun _ _ _=>rfl,fun _ _ h=>absurd HN2.out h,fun _ _ h=>absurd HN2.out h,fun _ _ h=>absurd HN2.out h⟩,hbel3⟩
       have hj':0≤c.join a b:=by omega
       go_wp2_with fail
       refine (HM.out a b _ hlt hbl hbel3).mono ?_
       rintro e w3 ⟨rfl,hb3⟩
       have HB4:=hide (HB3.out.below hb3 HB3.out.lt)
       have hbel4:=hbel3.trans (hb3.mono hbel3.size)
       clear p0 p1 p2 p3 hb3
       by_cases hm:c.meet a b<0
       ·have HN2:Hid c.noLat:=⟨a,b,hlt,hbl,Or.inr hm⟩
        go_wp2
        go_ret
        exact⟨3,rfl,⟨fun h=>absurd h (by rw [HL.out];simp),fun _ h=>absurd h HNC.out,fun _ _ _=>rfl,fun _ _ h=>absurd HN2.out h,fun _ _ h=>absurd HN2.out h,fun _ _ h=>absurd HN2.out h⟩,hbel4⟩
       have hm':0≤c.meet a b:=by omega
       go_wp2
       go_roundw
       case rel=>exact⟨b+1,by omega,by go_num,fun y hy=>by
        by_cases e:y=b
        ·rw [e];exact⟨hj',hm'⟩
        ·exact HNB.out y (by omega),HB4.out,hbel4⟩
       case measure=>simp [intOf];omega
      ·have hge:c.labels≤(b:Int):=by omega
       have hbe:b=c.n:=by omega
       have HNB2:=hide (show ∀ y:Nat,y<c.n→0≤c.join a y∧0≤c.meet a y by rw [← hbe];exact HNB.out)
       clear hbe
       go_wp2
       go_roundw
       case rel=>exact⟨a+1,by omega,by go_num,fun x y hx hy=>by
        by_cases e:x=a
        ·rw [e];exact HNB2.out y hy
        ·exact HNO2.out x y (by omega) hy,HB2.out,hbel2⟩
       case measure=>simp [intOf];omega
    ·have hge:c.labels≤(a:Int):=by omega
     have hae:a=c.n:=by omega
     have HNL:Hid (¬ c.noLat):=by
      rintro ⟨x,y,hx,hy,h⟩
      have:=HNO2.out x y (by omega) hy
      omega
     clear hae
     go_wp2_with fail
     refine (HR1.out _ hbel).mono ?_
     rintro e w2 ⟨rfl,hb2⟩
     have HB3:=hide (HB.out.below hb2 HB.out.lt)
     obtain⟨p0,p1,p2,p3⟩:=HB3.out.cells
     have hbel3:=hbel.trans (hb2.mono hbel.size)
     clear q0 q1 q2 q3 hb2
     cases h4:rulesB c
     ·have H4:=hide h4
      clear h4
      go_wp2
      go_ret
      exact⟨4,rfl,⟨fun h=>absurd h (by rw [HL.out];simp),fun _ h=>absurd h HNC.out,fun _ _ h=>absurd h HNL.out,fun _ _ _ _=>rfl,fun _ _ _ h=>absurd h (by rw [H4.out];simp),fun _ _ _ h=>absurd h (by rw [H4.out];simp)⟩,hbel3⟩
     have H4:=hide h4
     clear h4
     go_wp2_with fail
     refine (HR2.out _ hbel3).mono ?_
     rintro e w3 ⟨rfl,hb3⟩
     have hbel4:=hbel3.trans (hb3.mono hbel3.size)
     clear p0 p1 p2 p3 hb3
     cases h5:grantsB c
     ·have H5:=hide h5
      clear h5
      go_wp2
      go_ret
      exact⟨5,rfl,⟨fun h=>absurd h (by rw [HL.out];simp),fun _ h=>absurd h HNC.out,fun _ _ h=>absurd h HNL.out,fun _ _ _ h=>absurd h (by rw [H4.out];simp),fun _ _ _ _ _=>rfl,fun _ _ _ _ h=>absurd h (by rw [H5.out];simp)⟩,hbel4⟩
     ·have H5:=hide h5
      clear h5
      go_wp2
      go_ret
      exact⟨0,rfl,⟨fun h=>absurd h (by rw [HL.out];simp),fun _ h=>absurd h HNC.out,fun _ _ h=>absurd h HNL.out,fun _ _ _ h=>absurd h (by rw [H4.out];simp),fun _ _ _ _ h=>absurd h (by rw [H5.out];simp),fun _ _ _ _ _=>rfl⟩,hbel4⟩
end Go.Proofs.YtgigkiocdiffjaaGreat
namespace Go.Proofs.YtgigkiocdiffjaaGreat
open Go.RowKit
@[go_sem] def wpPlain2 (P:Program) (o:Oper) (a:Act) (w:World) (K:Act→World→Prop) (Q:Exit→Act→World→Prop):Prop:=o.upon P a K Q ((execOp a.eval o).run P w)
abbrev RowLaw2 (P:Program) (N:TypeId→Nat):Prop:=∀ (o:Oper) (a:Act) (w:World) (K:Act→World→Prop) (Q:Exit→Act→World→Prop),
  wpPlain P o a w K Q=@ite _ (N (loadTy o)≠0∧ptrIs w (a.eval (opFst o)) (N (loadTy o))) (Classical.propDecidable _) (K (a.put o.dst (.agg (rowAt w (blkOf (a.eval (opFst o)))))) w)
   (@ite _ (N (storeTy o)≠0∧ptrIs w (a.eval (opFst o)) (N (storeTy o))∧isAggV (a.eval (opSnd o)) (N (storeTy o))) (Classical.propDecidable _) (K (a.put o.dst undef) (w.setRow (blkOf (a.eval (opFst o))) (aggOf (a.eval (opSnd o))))) (wpPlain2 P o a w K Q))
theorem row_law2 {P:Program} {N:TypeId→Nat} (hN:RowsOk P N):RowLaw2 P N:=fun o a w K Q=>row_law hN o a w K Q
end Go.Proofs.YtgigkiocdiffjaaGreat
namespace Go.Proofs.YtgigkiocdiffjaaGreat
open Go.RowKit Veil
def ordC (L:Int) (f:Nat→Nat→Bool):Array Value:=(Value.int .i64 L :: (List.range 36).map fun i=>Value.bool (f (i / 6) (i % 6))).toArray
theorem ordC_size (L:Int) (f:Nat→Nat→Bool):(ordC L f).size=37:=by simp [ordC]
theorem ordC_zero (L:Int) (f:Nat→Nat→Bool):(ordC L f)[0]?=some (.int .i64 L):=by simp [ordC]
theorem ordC_get (L:Int) (f:Nat→Nat→Bool) (a b:Nat) (ha:a<6) (hb:b<6):(ordC L f)[1+a*6+b]?=some (.bool (f a b)):=by
 have e:1+a*6+b=(a*6+b)+1:=by omega
 have h1:(a*6+b) / 6=a:=by omega
 have h2:(a*6+b) % 6=b:=by omega
 have hlt:a*6+b<36:=by omega
 rw [e]
 simp [ordC,h1,h2,hlt]
theorem ordC_congr (L:Int) (f g:Nat→Nat→Bool) (h:∀ a b,a<6→b<6→f a b=g a b):ordC L f=ordC L g:=by
 unfold ordC
 congr 2
 apply List.map_congr_left
 intro i hi
 have:i<36:=by simpa using hi
 rw [h _ _ (by omega) (by omega)]
theorem ordC_set (L:Int) (f:Nat→Nat→Bool) (a b:Nat) (x:Bool) (ha:a<6) (hb:b<6):(ordC L f).setIfInBounds (1+a*6+b) (.bool x)=ordC L (fun i j=>if i=a∧j=b then x else f i j):=by
 apply Array.ext_getElem?
 intro i
 rw [Array.getElem?_setIfInBounds]
 by_cases hi:i<37
 ·match i,hi with
  | 0,_=>rw [if_neg (by omega),ordC_zero,ordC_zero]
  | i+1,hi=>
   have e:i+1=1+(i / 6)*6+i % 6:=by omega
   rw [e,ordC_get _ _ _ _ (by omega) (by omega),ordC_get _ _ _ _ (by omega) (by omega),ordC_size]
   by_cases h:i / 6=a∧i % 6=b
   ·rw [if_pos (by omega),if_pos (by omega),if_pos h]
   ·rw [if_neg (by omega),if_neg h]
 ·rw [if_neg (by omega),Array.getElem?_eq_none (by rw [ordC_size];omega),Array.getElem?_eq_none (by rw [ordC_size];omega)]
theorem ordC_one (L:Int) (f:Nat→Nat→Bool):(ordC L f).all (·.oneCell')=true:=by
 simp [ordC,Value.oneCell']
theorem ordC_ok (L:Int) (f:Nat→Nat→Bool):okRow (ordC L f) 37:=⟨ordC_size L f,ordC_one L f⟩
theorem Tryz.sizeOrder:(Tryz.prog.info? 105).map (·.size)=some 37:=by kernel_rfl
@[go_sem] def rowN2 (t:TypeId):Nat:=if t=105 then 37 else 0
theorem rowN2_ok:RowsOk Tryz.prog rowN2:=by
 refine⟨rfl,fun ty h=>?_⟩
 unfold rowN2 at *
 split at h
 ·subst_vars;exact⟨_,Tryz.underlying105,rfl,Tryz.sizeOrder⟩
 ·exact absurd rfl h
@[go_sem ↓] theorem rows_order:RowLaw2 Tryz.prog rowN2:=row_law2 rowN2_ok
def OrdAt (w:World) (g:Nat) (L:Int) (f:Nat→Nat→Bool):Prop:=w.heap[g]?=some (.cells (ordC L f) 105 (0,0))
theorem OrdAt.below {w w':World} {g B:Nat} {L:Int} {f:Nat→Nat→Bool} (h:OrdAt w g L f) (hb:Below B w w') (hg:g<B):OrdAt w' g L f:=Below.row hb h hg
theorem OrdAt.lt {w:World} {g:Nat} {L:Int} {f:Nat→Nat→Bool} (h:OrdAt w g L f):g<w.heap.size:=lt_of_row h
theorem OrdAt.is {w:World} {g:Nat} {L:Int} {f:Nat→Nat→Bool} (h:OrdAt w g L f):rowIs w g 37:=rowIs_mk h (ordC_size L f)
theorem OrdAt.at {w:World} {g:Nat} {L:Int} {f:Nat→Nat→Bool} (h:OrdAt w g L f):rowAt w g=ordC L f:=rowAt_mk h
theorem OrdAt.zero {w:World} {g:Nat} {L:Int} {f:Nat→Nat→Bool} (h:OrdAt w g L f):w.cell? ⟨g,0,none⟩=some (.int .i64 L):=by rw [cell_of_row _ _ _ _ _ _ h,ordC_zero]
theorem OrdAt.cell {w:World} {g:Nat} {L:Int} {f:Nat→Nat→Bool} (h:OrdAt w g L f) (a b:Nat) (ha:a<6) (hb:b<6):w.cell? ⟨g,1+a*6+b,none⟩=some (.bool (f a b)):=by rw [cell_of_row _ _ _ _ _ _ h,ordC_get _ _ _ _ ha hb]
theorem ord_new (w:World) (L:Int) (f:Nat→Nat→Bool):OrdAt (w.alloc (.cells (ordC L f) 105)) w.heap.size L f:=Go.heap_alloc_new _ _
theorem inRange_any (L a:Int) (w:World) :
  Calls Tryz.prog 107 #[.int .i64 L,.int .i64 a] w fun e w'=>e=.returned (.bool (okL L a))∧w=w':=by
 by_cases h:0≤a
 ·go_enter Tryz.func107,Tryz.ntmps107
  go_wp2
  go_ret
  exact⟨ret_bool (by simp [okL,h]),rfl⟩
 ·go_enter Tryz.func107,Tryz.ntmps107
  go_wp2
  go_ret
  exact⟨ret_bool (by simp [okL];omega),rfl⟩
theorem has_any (L:Int) (f:Nat→Nat→Bool) (a:Int) (w:World) :
  Calls Tryz.prog 54 #[.agg (ordC L f),.int .i64 a] w fun e w'=>e=.returned (.bool (okL L a))∧Below w.heap.size w w':=by
 have h0:=(ord_new w L f).zero
 go_enter Tryz.func54,Tryz.ntmps54
 go_wp2_with fail
 refine (inRange_any L a _).mono ?_
 rintro e w1 ⟨rfl,rfl⟩
 go_wp2
 go_ret
 exact⟨rfl,below_box _ _⟩
def leO (n:Nat) (f:Nat→Nat→Bool) (a b:Int):Bool:=okL n a && okL n b && f a.toNat b.toNat
theorem okL_cast {n:Nat} {a:Int} (h:okL n a=true):∃ x:Nat,a=x∧x<n:=by
 simp only [okL,Bool.and_eq_true,decide_eq_true_eq] at h
 obtain⟨x,rfl⟩:=Int.eq_ofNat_of_zero_le h.1
 exact⟨x,rfl,by omega⟩
theorem oleq_any (n:Nat) (f:Nat→Nat→Bool) (a b:Int) (w:World) (hn:n≤6) :
  Calls Tryz.prog 113 #[.agg (ordC n f),.int .i64 a,.int .i64 b] w fun e w'=>e=.returned (.bool (leO n f a b))∧Below w.heap.size w w':=by
 have HD:=hide (show leO n f a b=(okL n a && okL n b && f a.toNat b.toNat) from rfl)
 have HO:=hide (ord_new w n f)
 have i0:=(ord_new w n f).is
 have a0:=(ord_new w n f).at
 cases h1:okL n a
 ·have H1:=hide h1
  clear h1
  go_enter Tryz.func113,Tryz.ntmps113
  go_wp2_with fail
  refine (has_any n f a _).mono ?_
  rintro e w1 ⟨rfl,hb1⟩
  rw [H1.out]
  have hbel1:=(below_box w (.cells (ordC n f) 105)).trans (hb1.mono (by simp))
  clear hb1
  go_wp2
  go_ret
  exact⟨ret_bool (by rw [HD.out,H1.out];rfl),hbel1⟩
 cases h2:okL n b
 ·have H1:=hide h1
  have H2:=hide h2
  clear h1 h2
  go_enter Tryz.func113,Tryz.ntmps113
  go_wp2_with fail
  refine (has_any n f a _).mono ?_
  rintro e w1 ⟨rfl,hb1⟩
  rw [H1.out]
  have hbel1:=(below_box w (.cells (ordC n f) 105)).trans (hb1.mono (by simp))
  have HO1:=hide (HO.out.below hb1 (by simp))
  have i1:=HO1.out.is
  have a1:=HO1.out.at
  clear hb1
  go_wp2_with fail
  refine (has_any n f b _).mono ?_
  rintro e w2 ⟨rfl,hb2⟩
  rw [H2.out]
  have hbel2:=hbel1.trans (hb2.mono hbel1.size)
  clear hb2
  go_wp2
  go_ret
  exact⟨ret_bool (by rw [HD.out,H2.out];simp),hbel2⟩
 obtain⟨x,rfl,hx⟩:=okL_cast h1
 obtain⟨y,rfl,hy⟩:=okL_cast h2
 have H1:=hide h1
 have H2:=hide h2
 clear h1 h2
 go_enter Tryz.func113,Tryz.ntmps113
 go_wp2_with fail
 refine (has_any n f x _).mono ?_
 rintro e w1 ⟨rfl,hb1⟩
 rw [H1.out]
 have hbel1:=(below_box w (.cells (ordC n f) 105)).trans (hb1.mono (by simp))
 have HO1:=hide (HO.out.below hb1 (by simp))
 have i1:=HO1.out.is
 have a1:=HO1.out.at
 clear hb1
 go_wp2_with fail
 refine (has_any n f y _).mono ?_
 rintro e w2 ⟨rfl,hb2⟩
 rw [H2.out]
 have hbel2:=hbel1.trans (hb2.mono hbel1.size)
 have HO2:=hide (HO1.out.below hb2 HO1.out.lt)
 have hc:=HO2.out.cell x y (by omega) (by omega)
 clear hb2
 go_wp2
 go_ret
 exact⟨ret_bool (by rw [HD.out,H1.out,H2.out];simp),hbel2⟩
end Go.Proofs.YtgigkiocdiffjaaGreat
namespace Go.Proofs.YtgigkiocdiffjaaGreat
open Go.RowKit Veil
def abvO (n:Nat) (f:Nat→Nat→Bool) (a b x:Int):Bool:=leO n f a x && leO n f b x
def blwO (n:Nat) (f:Nat→Nat→Bool) (a b l:Int):Bool:=(List.range n).all fun k=>!(abvO n f a b k && !leO n f l k)
def leastO (n:Nat) (f:Nat→Nat→Bool) (a b:Int):Int:=firstN (fun j=>abvO n f a b j && blwO n f a b j) n
def posI (r:Int):Int:=if 0≤r then r else 0
def posB (r:Int):Bool:=decide (0≤r)
theorem ret_pair {a b:Int} {x y:Bool} (h:a=b) (h':x=y):Ending.returned (.tuple #[.int .i64 a,.bool x])=.returned (.tuple #[.int .i64 b,.bool y]):=by rw [h,h']
theorem isAbove_any (n:Nat) (f:Nat→Nat→Bool) (a b x:Int) (w:World) (hn:n≤6) :
  Calls Tryz.prog 166 #[.agg (ordC n f),.int .i64 a,.int .i64 b,.int .i64 x] w fun e w'=>e=.returned (.bool (abvO n f a b x))∧Below w.heap.size w w':=by
 have HD:=hide (show abvO n f a b x=(leO n f a x && leO n f b x) from rfl)
 have HO:=hide (ord_new w n f)
 have i0:=(ord_new w n f).is
 have a0:=(ord_new w n f).at
 cases h1:leO n f a x
 ·have H1:=hide h1
  clear h1
  go_enter Tryz.func166,Tryz.ntmps166
  go_wp2_with fail
  refine (oleq_any n f a x _ hn).mono ?_
  rintro e w1 ⟨rfl,hb1⟩
  rw [H1.out]
  have hbel1:=(below_box w (.cells (ordC n f) 105)).trans (hb1.mono (by simp))
  clear hb1
  go_wp2
  go_ret
  exact⟨ret_bool (by rw [HD.out,H1.out];rfl),hbel1⟩
 ·have H1:=hide h1
  clear h1
  go_enter Tryz.func166,Tryz.ntmps166
  go_wp2_with fail
  refine (oleq_any n f a x _ hn).mono ?_
  rintro e w1 ⟨rfl,hb1⟩
  rw [H1.out]
  have hbel1:=(below_box w (.cells (ordC n f) 105)).trans (hb1.mono (by simp))
  have HO1:=hide (HO.out.below hb1 (by simp))
  have i1:=HO1.out.is
  have a1:=HO1.out.at
  clear hb1
  go_wp2_with fail
  refine (oleq_any n f b x _ hn).mono ?_
  rintro e w2 ⟨rfl,hb2⟩
  have hbel2:=hbel1.trans (hb2.mono hbel1.size)
  clear hb2
  go_wp2
  go_ret
  exact⟨ret_bool (by rw [HD.out,H1.out];rfl),hbel2⟩
theorem isBelow_any (n:Nat) (f:Nat→Nat→Bool) (a b l:Int) (w:World) (hn:n≤6) :
  Calls Tryz.prog 167 #[.agg (ordC n f),.int .i64 a,.int .i64 b,.int .i64 l] w fun e w'=>e=.returned (.bool (blwO n f a b l))∧Below w.heap.size w w':=by
 have HD:=hide (show blwO n f a b l=(List.range n).all fun k=>!(abvO n f a b k && !leO n f l k) from rfl)
 go_enter Tryz.func167,Tryz.ntmps167
 go_wp2
 go_loopw [9] (fun i wr=>∃ k:Nat,k≤n∧i=.int .i64 k∧((List.range k).all fun k=>!(abvO n f a b k && !leO n f l k))=true∧OrdAt wr w.heap.size n f∧Below w.heap.size w wr) (fun i _=>n-(intOf i).toNat)
 case atStart=>exact⟨0,Nat.zero_le _,rfl,rfl,ord_new _ _ _,below_box _ _⟩
 case round=>
  obtain⟨wo,rfl⟩:∃ x,x=wr:=⟨_,rfl⟩
  obtain⟨k,hk,rfl,hal,hO,hbel⟩:=hrel
  have HA:=hide hal
  have HO:=hide hO
  have z0:=hO.zero
  have i0:=hO.is
  have a0:=hO.at
  clear hal hO
  by_cases hlt:k<n
  ·have HS:=hide (all_range_succ k fun k=>!(abvO n f a b k && !leO n f l k))
   cases h1:abvO n f a b k
   ·go_wp2_with fail
    refine (isAbove_any n f a b k _ hn).mono ?_
    rintro e w1 ⟨rfl,hb1⟩
    rw [h1]
    have HO1:=hide (HO.out.below hb1 HO.out.lt)
    have hbel1:=hbel.trans (hb1.mono hbel.size)
    have H1:=hide h1
    clear hb1 z0 i0 a0 h1
    go_wp2
    go_roundw
    case rel=>exact⟨k+1,by omega,by go_num,by rw [HS.out,HA.out,H1.out];rfl,HO1.out,hbel1⟩
    case measure=>simp [intOf];omega
   go_wp2_with fail
   refine (isAbove_any n f a b k _ hn).mono ?_
   rintro e w1 ⟨rfl,hb1⟩
   rw [h1]
   have HO1:=hide (HO.out.below hb1 HO.out.lt)
   have hbel1:=hbel.trans (hb1.mono hbel.size)
   have i1:=HO1.out.is
   have a1:=HO1.out.at
   have H1:=hide h1
   clear hb1 z0 i0 a0 h1
   go_wp2_with fail
   refine (oleq_any n f l k _ hn).mono ?_
   rintro e w2 ⟨rfl,hb2⟩
   have HO2:=hide (HO1.out.below hb2 HO1.out.lt)
   have hbel2:=hbel1.trans (hb2.mono hbel1.size)
   clear hb2 i1 a1
   cases h2:leO n f l k
   ·have H2:=hide h2
    clear h2
    go_wp2
    go_ret
    exact⟨ret_bool (by rw [HD.out,all_false (k:=k+1) (by omega) (by rw [HS.out,H1.out,H2.out];simp)]),hbel2⟩
   ·have H2:=hide h2
    clear h2
    go_wp2
    go_roundw
    case rel=>exact⟨k+1,by omega,by go_num,by rw [HS.out,HA.out,H2.out];simp,HO2.out,hbel2⟩
    case measure=>simp [intOf];omega
  ·have hke:k=n:=by omega
   have HT:=hide (show blwO n f a b l=true by rw [HD.out];have:=HA.out;rwa [hke] at this)
   clear hke
   go_wp2
   go_ret
   exact⟨ret_bool (by rw [HT.out]),hbel⟩
theorem least_any (n:Nat) (f:Nat→Nat→Bool) (a b:Int) (w:World) (hn:n≤6) :
  Calls Tryz.prog 156 #[.agg (ordC n f),.int .i64 a,.int .i64 b] w fun e w'=>e=.returned (.tuple #[.int .i64 (posI (leastO n f a b)),.bool (posB (leastO n f a b))])∧Below w.heap.size w w':=by
 have HY:=hide (fun (j:Nat) (hj:j<n) (h:(fun j:Nat=>abvO n f a b j && blwO n f a b j) j=true) hno=>(firstN_yes (p:=fun j:Nat=>abvO n f a b j && blwO n f a b j) hj h hno:leastO n f a b=j))
 have HN:=hide (fun hno=>(firstN_no (p:=fun j:Nat=>abvO n f a b j && blwO n f a b j) (n:=n) hno:leastO n f a b=-1))
 go_enter Tryz.func156,Tryz.ntmps156
 go_wp2
 go_loopw [8] (fun i wr=>∃ k:Nat,k≤n∧i=.int .i64 k∧(∀ x,x<k→(fun j:Nat=>abvO n f a b j && blwO n f a b j) x=false)∧OrdAt wr w.heap.size n f∧Below w.heap.size w wr) (fun i _=>n-(intOf i).toNat)
 case atStart=>exact⟨0,Nat.zero_le _,rfl,fun x hx=>absurd hx (Nat.not_lt_zero _),ord_new _ _ _,below_box _ _⟩
 case round=>
  obtain⟨wo,rfl⟩:∃ x,x=wr:=⟨_,rfl⟩
  obtain⟨k,hk,rfl,hno,hO,hbel⟩:=hrel
  have HNO:=hide hno
  have HO:=hide hO
  have z0:=hO.zero
  have i0:=hO.is
  have a0:=hO.at
  clear hno hO
  by_cases hlt:k<n
  ·cases h1:abvO n f a b k
   ·go_wp2_with fail
    refine (isAbove_any n f a b k _ hn).mono ?_
    rintro e w1 ⟨rfl,hb1⟩
    rw [h1]
    have HO1:=hide (HO.out.below hb1 HO.out.lt)
    have hbel1:=hbel.trans (hb1.mono hbel.size)
    have H1:=hide h1
    clear hb1 z0 i0 a0 h1
    go_wp2
    go_roundw
    case rel=>
     refine⟨k+1,by omega,by go_num,fun x hx=>?_,HO1.out,hbel1⟩
     by_cases e:x=k
     ·rw [e];simp [H1.out]
     ·exact HNO.out x (by omega)
    case measure=>simp [intOf];omega
   go_wp2_with fail
   refine (isAbove_any n f a b k _ hn).mono ?_
   rintro e w1 ⟨rfl,hb1⟩
   rw [h1]
   have HO1:=hide (HO.out.below hb1 HO.out.lt)
   have hbel1:=hbel.trans (hb1.mono hbel.size)
   have i1:=HO1.out.is
   have a1:=HO1.out.at
   have H1:=hide h1
   clear hb1 z0 i0 a0 h1
   go_wp2_with fail
   refine (isBelow_any n f a b k _ hn).mono ?_
   rintro e w2 ⟨rfl,hb2⟩
   have HO2:=hide (HO1.out.below hb2 HO1.out.lt)
   have hbel2:=hbel1.trans (hb2.mono hbel1.size)
   clear hb2 i1 a1
   cases h2:blwO n f a b k
   ·have H2:=hide h2
    clear h2
    go_wp2
    go_roundw
    case rel=>
     refine⟨k+1,by omega,by go_num,fun x hx=>?_,HO2.out,hbel2⟩
     by_cases e:x=k
     ·rw [e];simp [H2.out]
     ·exact HNO.out x (by omega)
    case measure=>simp [intOf];omega
   ·have HT:=hide (HY.out k hlt (by simp [H1.out,h2]) HNO.out)
    clear h2
    go_wp2
    go_ret2
    exact⟨ret_pair (by rw [show leastO n f a b=k from HT.out,posI,if_pos (by omega)]) (by rw [show leastO n f a b=k from HT.out,posB,decide_eq_true (by omega)]),hbel2⟩
  ·have HT:=hide (HN.out fun i hi=>HNO.out i (by omega))
   go_wp2
   go_ret2
   exact⟨ret_pair (by rw [show leastO n f a b=-1 from HT.out];rfl) (by rw [show leastO n f a b=-1 from HT.out];rfl),hbel⟩
def RetB (e:Ending) (p:Prop):Prop:=∃ r:Bool,e=.returned (.bool r)∧(r=true ↔ p)
theorem RetB.yes {p:Prop} (h:p):RetB (.returned (.bool true)) p:=⟨true,rfl,fun _=>h,fun _=>rfl⟩
theorem RetB.no {p:Prop} (h:¬ p):RetB (.returned (.bool false)) p:=⟨false,rfl,fun h'=>by simp at h',fun h'=>absurd h' h⟩
def joinsO (n:Nat) (f:Nat→Nat→Bool):Prop:=∀ a b:Nat,a<n→b<a→0≤leastO n f a b
theorem hasJoins_any (n:Nat) (f:Nat→Nat→Bool) (w:World) (hn:n≤6) :
  Calls Tryz.prog 165 #[.agg (ordC n f)] w fun e w'=>RetB e (joinsO n f)∧Below w.heap.size w w':=by
 go_enter Tryz.func165,Tryz.ntmps165
 go_wp2
 go_loopw [3] (fun i wr=>∃ a:Nat,a≤n∧i=.int .i64 a∧(∀ x y:Nat,x<a→y<x→0≤leastO n f x y)∧OrdAt wr w.heap.size n f∧Below w.heap.size w wr) (fun i _=>n-(intOf i).toNat)
 case atStart=>exact⟨0,Nat.zero_le _,rfl,fun x y hx=>absurd hx (Nat.not_lt_zero _),ord_new _ _ _,below_box _ _⟩
 case round=>
  obtain⟨wo,rfl⟩:∃ x,x=wr:=⟨_,rfl⟩
  obtain⟨a,ha,rfl,hno,hO,hbel⟩:=hrel
  have HNO:=hide hno
  have HO:=hide hO
  have z0:=hO.zero
  clear hno hO
  by_cases hlt:a<n
  ·go_wp2
   go_loopw [4] (fun i wr=>∃ b:Nat,b≤a∧i=.int .i64 b∧(∀ y:Nat,y<b→0≤leastO n f a y)∧OrdAt wr w.heap.size n f∧Below w.heap.size w wr) (fun i _=>a-(intOf i).toNat)
   case atStart=>exact⟨0,Nat.zero_le _,rfl,fun y hy=>absurd hy (Nat.not_lt_zero _),HO.out,hbel⟩
   case round=>
    clear z0
    obtain⟨wi,rfl⟩:∃ x,x=wr:=⟨_,rfl⟩
    obtain⟨b,hb,rfl,hnb,hO,hbel2⟩:=hrel
    have HNB:=hide hnb
    have HO2:=hide hO
    have i0:=hO.is
    have a0:=hO.at
    clear hnb hO
    by_cases hbl:b<a
    ·go_wp2_with fail
     refine (least_any n f a b _ hn).mono ?_
     rintro e w2 ⟨rfl,hb2⟩
     have HO3:=hide (HO2.out.below hb2 HO2.out.lt)
     have hbel3:=hbel2.trans (hb2.mono hbel2.size)
     clear hb2 i0 a0
     by_cases hj:0≤leastO n f a b
     ·have hd:posB (leastO n f a b)=true:=decide_eq_true hj
      go_wp2
      go_roundw
      case rel=>
       refine⟨b+1,by omega,by go_num,fun y hy=>?_,HO3.out,hbel3⟩
       by_cases e:y=b
       ·rw [e];exact hj
       ·exact HNB.out y (by omega)
      case measure=>simp [intOf];omega
     ·have hd:posB (leastO n f a b)=false:=decide_eq_false hj
      have HF:Hid (¬ joinsO n f):=fun h=>hj (h a b hlt hbl)
      clear hj
      go_wp2
      go_ret
      exact⟨RetB.no HF.out,hbel3⟩
    ·have hbe:b=a:=by omega
     have HNB2:Hid (∀ y:Nat,y<a→0≤leastO n f a y):=fun y hy=>HNB.out y (by omega)
     clear hbe
     go_wp2
     go_roundw
     case rel=>
      refine⟨a+1,by omega,by go_num,fun x y hx hy=>?_,HO2.out,hbel2⟩
      by_cases e:x=a
      ·rw [e];rw [e] at hy;exact HNB2.out y hy
      ·exact HNO.out x y (by omega) hy
     case measure=>simp [intOf];omega
  ·have HT:Hid (joinsO n f):=fun x y hx hy=>HNO.out x y (by omega) hy
   go_wp2
   go_ret
   exact⟨RetB.yes HT.out,hbel⟩
def circleO (n:Nat) (f:Nat→Nat→Bool):Prop:=∃ a b:Nat,a<n∧b<a∧f a b=true∧f b a=true
theorem hasCircle_any (n:Nat) (f:Nat→Nat→Bool) (w:World) (hn:n≤6) :
  Calls Tryz.prog 145 #[.agg (ordC n f)] w fun e w'=>RetB e (circleO n f)∧Below w.heap.size w w':=by
 have z0:=(ord_new w n f).zero
 have HO:=hide (ord_new w n f)
 go_enter Tryz.func145,Tryz.ntmps145
 go_wp2
 go_loop [3] (fun i=>∃ a:Nat,a≤n∧i=.int .i64 a∧(∀ x y:Nat,x<a→y<x→(f x y && f y x)=false)) (fun i=>n-(intOf i).toNat)
 case atStart=>exact⟨0,Nat.zero_le _,rfl,fun x y hx=>absurd hx (Nat.not_lt_zero _)⟩
 case round=>
  obtain⟨a,ha,rfl,hno⟩:=hrel
  have HNO:=hide hno
  clear hno
  by_cases hlt:a<n
  ·go_wp2
   go_loop [4] (fun i=>∃ b:Nat,b≤a∧i=.int .i64 b∧(∀ y:Nat,y<b→(f a y && f y a)=false)) (fun i=>a-(intOf i).toNat)
   case atStart=>exact⟨0,Nat.zero_le _,rfl,fun y hy=>absurd hy (Nat.not_lt_zero _)⟩
   case round=>
    obtain⟨b,hb,rfl,hnb⟩:=hrel
    have HNB:=hide hnb
    clear hnb
    by_cases hbl:b<a
    ·have c1:=HO.out.cell a b (by omega) (by omega)
     have c2:=HO.out.cell b a (by omega) (by omega)
     cases h1:f a b
     ·rw [h1] at c1
      have H1:=hide h1
      clear h1
      go_wp2
      go_round
      case rel=>exact⟨b+1,by omega,by go_num,fun y hy=>by
       by_cases e:y=b
       ·rw [e,H1.out];rfl
       ·exact HNB.out y (by omega)⟩
      case measure=>simp [intOf];omega
     ·rw [h1] at c1
      cases h2:f b a
      ·rw [h2] at c2
       have H2:=hide h2
       clear h1 h2
       go_wp2
       go_round
       case rel=>exact⟨b+1,by omega,by go_num,fun y hy=>by
        by_cases e:y=b
        ·rw [e,H2.out];simp
        ·exact HNB.out y (by omega)⟩
       case measure=>simp [intOf];omega
      ·rw [h2] at c2
       have HC:Hid (circleO n f):=⟨a,b,hlt,hbl,h1,h2⟩
       clear h1 h2
       go_wp2
       go_ret
       exact⟨RetB.yes HC.out,below_box _ _⟩
    ·have hbe:b=a:=by omega
     have HNB2:Hid (∀ y:Nat,y<a→(f a y && f y a)=false):=fun y hy=>HNB.out y (by omega)
     clear hbe
     go_wp2
     go_round
     case rel=>
      refine⟨a+1,by omega,by go_num,fun x y hx hy=>?_⟩
      by_cases e:x=a
      ·rw [e];rw [e] at hy;exact HNB2.out y hy
      ·exact HNO.out x y (by omega) hy
     case measure=>simp [intOf];omega
  ·have HT:Hid (¬ circleO n f):=by
    rintro ⟨x,y,hx,hy,h1,h2⟩
    have:=HNO.out x y (by omega) hy
    rw [h1,h2] at this
    simp at this
   go_wp2
   go_ret
   exact⟨RetB.no HT.out,below_box _ _⟩
end Go.Proofs.YtgigkiocdiffjaaGreat
