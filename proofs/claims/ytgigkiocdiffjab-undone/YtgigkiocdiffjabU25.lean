import Derived.Test.YtgigkiocdiffjabU24
set_option maxRecDepth 100000
set_option maxHeartbeats 16000000
namespace Go.Proofs.Ytgigkiocdiffjab
open Go.RowKit Veil
def tellV (c:Cfg) (lo:Nat) (V:Nat→Nat):Nat→Nat:=fun i=>bif c.le lo i then V i+1 else V i
def tellW (c:Cfg) (k:Int) (b lo:Nat) (W:Nat→List No):Nat→List No:=fun i=>bif c.le lo i && !((b:Int) == (i:Int)) then addW (W i) ⟨k,b⟩ else W i
def toF {α:Type} (F G:Nat→α) (j:Nat):Nat→α:=fun i=>bif decide (i<j) then F i else G i
theorem toF_zero {α:Type} (F G:Nat→α):toF F G 0=G:=by funext i;simp [toF]
theorem toF_at {α:Type} (F G:Nat→α) (j:Nat):toF F G j j=G j:=by simp [toF]
theorem toF_lt {α:Type} (F G:Nat→α) {i j:Nat} (h:i<j):toF F G j i=F i:=by simp [toF,h]
theorem toF_same {α:Type} {F G:Nat→α} {j:Nat} (h:F j=G j) (i:Nat):toF F G (j+1) i=toF F G j i:=by
 unfold toF
 by_cases hij:i=j
 ·subst hij;simp [h]
 ·have:decide (i<j+1)=decide (i<j):=by rw [decide_eq_decide];omega
  rw [this]
theorem toF_upd {α:Type} {F G:Nat→α} {j:Nat} {x:α} (h:F j=x) (i:Nat):toF F G (j+1) i=updF (toF F G j) j x i:=by
 by_cases hij:i=j
 ·subst hij;rw [updF_same];simp [toF,h]
 ·rw [updF_other _ _ hij]
  unfold toF
  have:decide (i<j+1)=decide (i<j):=by rw [decide_eq_decide];omega
  rw [this]
theorem leO_out {n:Nat} {f:Nat→Nat→Bool} {a b:Nat} (h:leO n f a b=true):b<n:=by
 unfold leO at h
 simp only [Bool.and_eq_true] at h
 have:=h.1.2
 simp only [okL,Bool.and_eq_true,decide_eq_true_eq] at this
 omega
theorem nwTell_any {B g:Nat} {w:World} {c:Cfg} {row:List RC} {I:Nat→Nat} {L:Nat→List Rec} {V:Nat→Nat} {W:Nat→List No} {p:PV} (hdoc:PDocO B w g c row I L V W p) (hn6:c.n≤6) (hlab:labelsB c=true) (k:Int) (b lo:Nat) (hlo:lo<c.n) (hW:∀ i,i<c.n→WOk (W i)) (hV:∀ i,i<c.n→V i≤4000000000000) (hB:B≤w.heap.size) :
  Calls Try.prog 40 #[.pointer (some ⟨g,124,none⟩),.int .i64 k,.int .i64 b,.int .i64 lo] w fun e w'=>e=.returned (.tuple #[])∧∃ p',PDocO B w' g c row I L (tellV c lo V) (tellW c k b lo W) p'∧PStep c.n g p w p' w':=by
 have HLQ:=hide (fun (d:Nat) (w':World)=>oleq_any c.n (tT c) lo d w' hn6)
 have HLE:=hide (fun (d:Nat) (hd:d<c.n)=>leO_le hlab lo d hlo hd)
 have HDOC:=hide hdoc
 have HW:=hide hW
 have HV:=hide hV
 clear hlab hlo hW hV hdoc
 go_enter Try.func40,Try.ntmps40
 go_wp2
 go_loopw [8] (fun i wr=>∃ j:Nat,j≤6∧i=.int .i64 j∧∃ p',PDocO B wr g c row I L (toF (tellV c lo V) V j) (toF (tellW c k b lo W) W j) p'∧PStep c.n g p w p' wr) (fun i _=>6-(intOf i).toNat)
 case atStart=>exact⟨0,by omega,rfl,p,by rw [toF_zero,toF_zero];exact HDOC.out,PStep.below (Below.refl _ _)⟩
 case round=>
  obtain⟨wo,rfl⟩:∃ x,x=wr:=⟨_,rfl⟩
  obtain⟨j,hj,rfl,p1,hd1,hs1⟩:=hrel
  have HD:=hide hd1
  have HS:=hide hs1
  clear hd1 hs1
  by_cases hlt:j<6
  ·have hji:(j:Int)<6:=by omega
   have i0:=HD.out.box.isN
   have a0:=HD.out.box.atN
   have HQ1:=hide (HLQ.out j wo)
   have hgo:=HD.out.box.lt
   go_wp2_with fail
   refine (HQ1.out).mono ?_
   rintro e w3 ⟨rfl,hb3⟩
   have HD3:=hide (HD.out.below hb3)
   have HS3:=hide (HS.out.trans (PStep.below (n:=c.n) (g:=g) (p:=p1) hb3))
   clear i0 a0
   cases hle:leO c.n (tT c) lo j
   ·have HZ:=hide (show ∀ i,i<c.n→toF (tellV c lo V) V (j+1) i=toF (tellV c lo V) V j i∧toF (tellW c k b lo W) W (j+1) i=toF (tellW c k b lo W) W j i from fun i hi=>by
     by_cases hjn:j<c.n
     ·have h1:c.le lo j=false:=by rw [← HLE.out j hjn];exact hle
      exact⟨toF_same (by simp [tellV,h1]) i,toF_same (by simp [tellW,h1]) i⟩
     ·have h1:decide (i<j+1)=decide (i<j):=by rw [decide_eq_decide];omega
      exact⟨by unfold toF;rw [h1],by unfold toF;rw [h1]⟩)
    clear hle
    go_wp2
    go_roundw
    case rel=>exact⟨j+1,by omega,by go_num,p1,HD3.out.congr rfl (fun _ _=>rfl) (fun i hi=>(HZ.out i hi).1) (fun i hi=>(HZ.out i hi).2),HS3.out⟩
    case measure=>simp [intOf];omega
   ·have hjn:j<c.n:=leO_out hle
    have hlj:c.le lo j=true:=by rw [← HLE.out j hjn];exact hle
    have HVJ:=hide (show p1.nw.vs j=V j by rw [HD3.out.vers j hjn,toF_at])
    have HVL:=HV.out j hjn
    have c1:=HD3.out.box.ver j (by omega)
    rw [HVJ.out] at c1
    have fz:=HD3.out.box.frozen (161+j)
    obtain⟨n1,n2⟩:=PDocO.setVer (w:=w3.drew) (HD3.out.below (below_drew w3)) hn6 hjn (V j+1)
    have hcast:((V j+1:Nat):Int)=(V j:Int)+1:=by omega
    rw [hcast] at n1 n2
    have HN1:=hide n1
    have HN2:=hide (HS3.out.trans ((PStep.below (n:=c.n) (g:=g) (p:=p1) (below_drew w3)).trans n2))
    have HTV:=hide (show tellV c lo V j=V j+1 by simp [tellV,hlj])
    have HTW:=hide (show tellW c k b lo W j=bif !((b:Int) == (j:Int)) then addW (W j) ⟨k,b⟩ else W j by simp [tellW,hlj])
    have HWJ:=hide (show toF (tellW c k b lo W) W j j=W j from toF_at _ _ _)
    have HWO:=HW.out j hjn
    rw [← HWJ.out] at HWO
    generalize V j=vj at *
    have hv1:(vj:Int)+1≤9223372036854775807:=by omega
    have hv0:(-9223372036854775808:Int)≤(vj:Int)+1:=by omega
    have hBw:B≤(w3.drew.setCell ⟨g,161+j,none⟩ (.int .i64 ((vj:Int)+1))).heap.size:=Nat.le_trans hB HN2.out.1.size
    clear n1 n2 hcast hle hlj
    have HAD:=hide (nwAdd_any HN1.out hn6 j hjn k b HWO hBw)
    go_wp2_with fail
    refine wp_region_held_drew (S:=(fun (_:World)=>True)) (by kernel_rfl) ?_ (fun hHeld=>?_)
    ·exact trivial
    refine tV 0 20 ?_
    (try simp only [Act.put,lA,lZ,lS])
    refine tV 1 21 ?_
    (try simp only [Act.put,lA,lZ,lS])
    refine tV 2 22 ?_
    (try simp only [Act.put,lA,lZ,lS])
    refine tV 3 23 ?_
    (try simp only [Act.put,lA,lZ,lS])
    refine tV 4 24 ?_
    (try simp only [Act.put,lA,lZ,lS])
    refine tV 7 27 ?_
    (try simp only [Act.put,lA,lZ,lS])
    refine tV 8 28 ?_
    (try simp only [Act.put,lA,lZ,lS])
    refine wpAnyH_ready (rs:=[5]) (by kernel_rfl) (by simp) ?_
    refine AllReadyH.cons rfl (fun K hK=>?_) AllReadyH.nil
    go_simp
    refine hK.out _ _ ?_ (fun hHeld=>?_)
    ·exact trivial
    clear hK K
    refine tV 6 26 ?_
    (try simp only [Act.put,lA,lZ,lS])
    refine tV 9 29 ?_
    (try simp only [Act.put,lA,lZ,lS])
    refine wpAnyH_ready (rs:=[10]) (by kernel_rfl) (by simp) ?_
    refine AllReadyH.cons rfl (fun K hK=>?_) AllReadyH.nil
    go_simp
    refine hK.out _ _ ?_ (fun hHeld=>?_)
    ·exact trivial
    clear hK K
    refine wpAnyH_done (by kernel_rfl) ?_ _
    cases hbj:((j:Int) == (b:Int))
    ·have hbj2:((j:Int) != (b:Int))=true:=by simp [bne,hbj]
     have HTW2:=hide (show tellW c k b lo W j=addW (W j) ⟨k,b⟩ by
      have:((b:Int) == (j:Int))=false:=by
       have:=hbj
       simp only [beq_eq_false_iff_ne,ne_eq] at this ⊢
       exact fun e=>this e.symm
      rw [HTW.out,this];rfl)
     go_wp2_with fail
     refine (HAD.out).mono ?_
     rintro e w5 ⟨rfl,p5,hd5,hs5⟩
     have HD5:=hide (hd5.congr rfl (L':=L) (V':=toF (tellV c lo V) V (j+1)) (W':=toF (tellW c k b lo W) W (j+1)) (fun _ _=>rfl) (fun i _=>toF_upd HTV.out i) (fun i _=>by rw [HWJ.out];exact toF_upd HTW2.out i))
     have HS5:=hide (HN2.out.trans hs5)
     clear hd5 hs5
     go_wp2
     go_roundw
     case rel=>exact⟨j+1,by omega,by go_num,p5,HD5.out,HS5.out⟩
     case measure=>simp [intOf];omega
    ·have hbj2:((j:Int) != (b:Int))=false:=by simp [bne,hbj]
     have HTW2:=hide (show tellW c k b lo W j=W j by
      have:((b:Int) == (j:Int))=true:=by
       have:=hbj
       simp only [beq_iff_eq] at this ⊢
       exact this.symm
      rw [HTW.out,this];rfl)
     have HD5:=hide (HN1.out.congr rfl (L':=L) (V':=toF (tellV c lo V) V (j+1)) (W':=toF (tellW c k b lo W) W (j+1)) (fun _ _=>rfl) (fun i _=>toF_upd HTV.out i) (fun i _=>toF_same HTW2.out i))
     go_wp2
     go_roundw
     case rel=>exact⟨j+1,by omega,by go_num,_,HD5.out,HN2.out⟩
     case measure=>simp [intOf];omega
  ·obtain rfl:j=6:=by omega
   have HE:=hide (HD.out.congr rfl (L':=L) (V':=tellV c lo V) (W':=tellW c k b lo W) (fun _ _=>rfl) (fun i hi=>(toF_lt _ _ (by omega)).symm) (fun i hi=>(toF_lt _ _ (by omega)).symm))
   go_wp2
   go_end0
   exact⟨rfl,p1,HE.out,HS.out⟩
theorem nwVersion_any {B g:Nat} {w:World} {c:Cfg} {row:List RC} {I:Nat→Nat} {L:Nat→List Rec} {V:Nat→Nat} {W:Nat→List No} {p:PV} (hdoc:PDocO B w g c row I L V W p) (hn6:c.n≤6) (lv:Nat) (hlv:lv<c.n) :
  Calls Try.prog 56 #[.pointer (some ⟨g,124,none⟩),.int .i64 lv] w fun e w'=>e=.returned (.int .i64 (V lv))∧Below w.heap.size w w':=by
 have i0:=hdoc.box.isN
 have a0:=hdoc.box.atN
 have HQ:=hide (has_any c.n (tT c) lv w)
 rw [okL_lt hlv] at HQ
 have HD:=hide hdoc
 have hli:(lv:Int)<6:=by omega
 have HVJ:=hide (hdoc.vers lv hlv)
 have hl6:lv<6:=by omega
 clear hdoc hlv
 go_enter Try.func56,Try.ntmps56
 go_wp2_with fail
 refine (HQ.out).mono ?_
 rintro e w1 ⟨rfl,hb1⟩
 have c1:=(HD.out.below hb1).box.ver lv hl6
 rw [HVJ.out] at c1
 clear i0 a0
 go_wp2
 go_ret
 exact⟨rfl,hb1⟩
theorem lgHas_any (lv:Nat) (w:World) (h:lv<6):Calls Try.prog 81 #[.int .i64 lv] w fun e w'=>e=.returned (.bool true)∧w=w':=by
 have hli:(lv:Int)<6:=by omega
 have hl0:(0:Int)≤(lv:Int):=by omega
 go_enter Try.func81,Try.ntmps81
 go_wp2
 go_ret
 exact⟨rfl,rfl⟩
theorem lgFull_any {B g:Nat} {w:World} {c:Cfg} {row:List RC} {I:Nat→Nat} {L:Nat→List Rec} {V:Nat→Nat} {W:Nat→List No} {p:PV} (hdoc:PDocO B w g c row I L V W p) (hn6:c.n≤6) (lv:Nat) (hlv:lv<c.n) :
  Calls Try.prog 54 #[.pointer (some ⟨g,118,none⟩),.int .i64 lv] w fun e w'=>e=.returned (.bool (decide (8≤(L lv).length)))∧w=w':=by
 have HH:=hide (fun (w':World)=>lgHas_any lv w' (by omega))
 have c0:=hdoc.box.log lv (by omega)
 obtain⟨ao,cap,hvv⟩:=(hdoc.logs lv hlv).shape
 rw [hvv] at c0
 have hli:(lv:Int)<6:=by omega
 have HDC:=hide (show decide ((8:Int)≤((L lv).length:Int))=decide (8≤(L lv).length) by rw [decide_eq_decide];omega)
 clear hdoc hlv hvv
 go_enter Try.func54,Try.ntmps54
 go_wp2_with fail
 refine (HH.out _).mono ?_
 rintro e w1 ⟨rfl,rfl⟩
 go_wp2
 go_ret
 exact⟨ret_bool HDC.out,rfl⟩
theorem Try.infoRecord2:(Try.prog.info? 107).map (fun i=>(i.zero,i.size,i.bytes))=some (some (.agg #[.int .i64 0,.int .i64 0,.int .i64 0]),3,24):=by kernel_rfl
theorem lgAdd_any {B g:Nat} {w:World} {c:Cfg} {row:List RC} {I:Nat→Nat} {L:Nat→List Rec} {V:Nat→Nat} {W:Nat→List No} {p:PV} (hdoc:PDocO B w g c row I L V W p) (hn6:c.n≤6) (j:Nat) (hj:j<c.n) (r0 r1 r2:Int) (hlen:(L j).length<8) (hB:B≤w.heap.size) :
  Calls Try.prog 57 #[.pointer (some ⟨g,118,none⟩),.int .i64 j,.agg #[.int .i64 r0,.int .i64 r1,.int .i64 r2]] w fun e w'=>e=.returned (.tuple #[])∧∃ p',PDocO B w' g c row I (updF L j (L j++[⟨r0,r1,r2⟩])) V W p'∧PStep c.n g p w p' w':=by
 have hbx:=below_box w (.cells #[.int .i64 r0,.int .i64 r1,.int .i64 r2] 107)
 have HDOC:=hide hdoc
 have hgl:=hdoc.box.lt
 have HF:=hide (lgFull_any (hdoc.below hbx) hn6 j hj)
 have hfl:decide (8≤(L j).length)=false:=by simp;omega
 rw [hfl] at HF
 have HBX:=hide (hdoc.box.below hbx hgl)
 have HNB:=hide (Go.heap_alloc_new w (.cells #[.int .i64 r0,.int .i64 r1,.int .i64 r2] 107))
 have m2:=HBX.out.log j (by omega)
 have fz:=HBX.out.frozen (118+j)
 have hji:(j:Int)<6:=by omega
 have HOW:=hide ((hdoc.logs j hj).below hbx)
 have HMF:=hide (show ∀ x,(p.nw.lg j).ownBlock=some x→x≠g∧x≠w.heap.size from fun x hx=>⟨hdoc.neLog hj hx,fun e=>by have:=((hdoc.logs j hj).lt hx).2;omega⟩)
 generalize hLj:L j=Lj at *
 clear hdoc hLj hfl
 go_enter Try.func57,Try.ntmps57
 go_wp2_with fail
 refine (HF.out).mono ?_
 rintro e w1 ⟨rfl,rfl⟩
 generalize hwb:w.alloc (.cells #[.int .i64 r0,.int .i64 r1,.int .i64 r2] 107)=wb at *
 have hgo:g<wb.heap.size:=HBX.out.lt
 have hgne:g≠w.heap.size:=Nat.ne_of_lt hgl
 have hgne':w.heap.size≠g:=Nat.ne_of_gt hgl
 have hbxo:w.heap.size<wb.heap.size:=lt_of_row HNB.out
 have x0:wb.cell? ⟨w.heap.size,0,none⟩=some (.int .i64 r0):=(cell_of_row _ _ _ _ _ _ HNB.out).trans rfl
 have x1:wb.cell? ⟨w.heap.size,1,none⟩=some (.int .i64 r1):=(cell_of_row _ _ _ _ _ _ HNB.out).trans rfl
 have x2:wb.cell? ⟨w.heap.size,2,none⟩=some (.int .i64 r2):=(cell_of_row _ _ _ _ _ _ HNB.out).trans rfl
 have hbA:Below wb.heap.size wb (wb.drew.alloc (.cells #[.int .i64 r0,.int .i64 r1,.int .i64 r2] 107)):=(below_drew wb).alloc (Nat.le_refl _) _
 have HOA:=hide (HOW.out.below hbA)
 have HNA:=hide (Go.heap_alloc_new wb.drew (.cells #[.int .i64 r0,.int .i64 r1,.int .i64 r2] 107))
 clear hwb
 go_wp2_with fail
 refine wp_region_held_drew (S:=(fun w'=>w'.cell? ⟨w.heap.size,0,none⟩=some (.int .i64 r0)∧w'.cell? ⟨w.heap.size,1,none⟩=some (.int .i64 r1)∧w'.cell? ⟨w.heap.size,2,none⟩=some (.int .i64 r2))) (by kernel_rfl) ?_ (fun hHeld=>?_)
 ·(try dsimp only);go_keep
 refine tV 0 9 ?_
 (try simp only [Act.put,lA,lZ,lS])
 refine tV 1 10 ?_
 (try simp only [Act.put,lA,lZ,lS])
 refine tV 2 11 ?_
 (try simp only [Act.put,lA,lZ,lS])
 refine tV 3 12 ?_
 (try simp only [Act.put,lA,lZ,lS])
 refine tV 4 13 ?_
 (try simp only [Act.put,lA,lZ,lS])
 refine tV 5 14 ?_
 (try simp only [Act.put,lA,lZ,lS])
 refine tV 6 15 ?_
 (try simp only [Act.put,lA,lZ,lS])
 refine tV 8 17 ?_
 (try simp only [Act.put,lA,lZ,lS])
 refine tV 11 20 ?_
 (try simp only [Act.put,lA,lZ,lS])
 refine tV 12 21 ?_
 (try simp only [Act.put,lA,lZ,lS])
 refine wpAnyH_ready (rs:=[7,9]) (by kernel_rfl) (by simp) ?_
 refine AllReadyH.cons rfl (fun K hK=>?_) (AllReadyH.cons rfl (fun K hK=>?_) AllReadyH.nil)
 ·go_simp
  refine hK.out _ _ ?_ (fun hHeld=>?_)
  ·(try dsimp only);go_keep
  clear hK K
  refine wpAnyH_ready (rs:=[9]) (by kernel_rfl) (by simp) ?_
  refine AllReadyH.cons rfl (fun K hK=>?_) AllReadyH.nil
  go_simp
  refine hK.out _ _ ?_ (fun hHeld=>?_)
  ·(try dsimp only);go_keep
  clear hK K
  refine wpAnyH_ready (rs:=[10]) (by kernel_rfl) (by simp) ?_
  refine AllReadyH.cons rfl (fun K hK=>?_) AllReadyH.nil
  refine step_push rfl (.tmp 16) (.tmp 18) 54 rfl (.agg #[.int .i64 0,.int .i64 0,.int .i64 0]) 24 Try.underlying54 Try.infoRecord2 rfl (by decide) rfl HOA.out wb.heap.size 1 ⟨r0,r1,r2⟩ rfl 107 (0,0) HNA.out rfl (by intro u hu;simp [recV] at hu;rcases hu with rfl|rfl|rfl <;> rfl) (by omega) (by decide) (by simp;omega) (wb.heap.size+1) (by simp) ?_;intro g6 cap6 w6 hown6 hgrow6 hat6 hlt6;have z0:=(hgrow6.cell_far ⟨w.heap.size,0,none⟩ (by simp;omega) (fun e=>(HMF.out _ e.symm).2 rfl)).trans ((hbA.cell (p:=⟨w.heap.size,0,none⟩) hbxo).trans x0);have z1:=(hgrow6.cell_far ⟨w.heap.size,1,none⟩ (by simp;omega) (fun e=>(HMF.out _ e.symm).2 rfl)).trans ((hbA.cell (p:=⟨w.heap.size,1,none⟩) hbxo).trans x1);have z2:=(hgrow6.cell_far ⟨w.heap.size,2,none⟩ (by simp;omega) (fun e=>(HMF.out _ e.symm).2 rfl)).trans ((hbA.cell (p:=⟨w.heap.size,2,none⟩) hbxo).trans x2);have z6:=(hgrow6.cell_far ⟨g,118+j,none⟩ (by simp;omega) (fun e=>(HMF.out _ e.symm).1 rfl)).trans ((hbA.cell (p:=⟨g,118+j,none⟩) hgo).trans m2);have z7:w6.frozen? ⟨g,118+j,none⟩=false:=by (rw [hgrow6.frozen_far ⟨g,118+j,none⟩ (by simp;omega) (fun e=>(HMF.out _ e.symm).1 rfl)];exact (HBX.out.below hbA hgo).frozen _)
  refine hK.out _ _ ?_ (fun hHeld=>?_)
  ·(try dsimp only);go_keep
  clear hK K
  refine tV 13 22 ?_
  (try simp only [Act.put,List.setIfInBounds_toArray])
  refine wpAnyH_ready (rs:=[14]) (by kernel_rfl) (by simp) ?_
  refine AllReadyH.cons rfl (fun K hK=>?_) AllReadyH.nil
  go_simp
  refine hK.out _ _ ?_ (fun hHeld=>?_)
  ·(try dsimp only);go_keep
  clear hK K
  refine wpAnyH_done (by kernel_rfl) ?_ _
  have hg7:Only (fun k=>(p.nw.lg j).ownBlock=some k) w w6:=(Only.of_below (F:=fun k=>(p.nw.lg j).ownBlock=some k) (hbx.trans (hbA.mono hbx.size))).trans (F':=fun k=>(p.nw.lg j).ownBlock=some k) ⟨hgrow6.os,hgrow6.tape,hgrow6.output,hgrow6.size,fun k hk hn=>hgrow6.block k hk (fun e=>hn e.symm)⟩ (fun k h=>Or.inl h)
  obtain⟨n1,n2⟩:=HDOC.out.setLog hn6 hj hown6 hg7 (fun b hb=>by
     obtain rfl:g6=b:=Option.some.inj hb
     rcases hat6 with h|h
     ·exact Or.inl h
     ·exact Or.inr (by omega))
  have HN1:=hide n1
  have HN2:=hide n2
  clear n1 n2
  go_wp2
  go_end0
  exact⟨rfl,_,HN1.out,HN2.out⟩
 ·go_simp
  refine hK.out _ _ ?_ (fun hHeld=>?_)
  ·(try dsimp only);go_keep
  clear hK K
  refine wpAnyH_ready (rs:=[7]) (by kernel_rfl) (by simp) ?_
  refine AllReadyH.cons rfl (fun K hK=>?_) AllReadyH.nil
  go_simp
  refine hK.out _ _ ?_ (fun hHeld=>?_)
  ·(try dsimp only);go_keep
  clear hK K
  refine wpAnyH_ready (rs:=[10]) (by kernel_rfl) (by simp) ?_
  refine AllReadyH.cons rfl (fun K hK=>?_) AllReadyH.nil
  refine step_push rfl (.tmp 16) (.tmp 18) 54 rfl (.agg #[.int .i64 0,.int .i64 0,.int .i64 0]) 24 Try.underlying54 Try.infoRecord2 rfl (by decide) rfl HOA.out wb.heap.size 1 ⟨r0,r1,r2⟩ rfl 107 (0,0) HNA.out rfl (by intro u hu;simp [recV] at hu;rcases hu with rfl|rfl|rfl <;> rfl) (by omega) (by decide) (by simp;omega) (wb.heap.size+1) (by simp) ?_;intro g6 cap6 w6 hown6 hgrow6 hat6 hlt6;have z0:=(hgrow6.cell_far ⟨w.heap.size,0,none⟩ (by simp;omega) (fun e=>(HMF.out _ e.symm).2 rfl)).trans ((hbA.cell (p:=⟨w.heap.size,0,none⟩) hbxo).trans x0);have z1:=(hgrow6.cell_far ⟨w.heap.size,1,none⟩ (by simp;omega) (fun e=>(HMF.out _ e.symm).2 rfl)).trans ((hbA.cell (p:=⟨w.heap.size,1,none⟩) hbxo).trans x1);have z2:=(hgrow6.cell_far ⟨w.heap.size,2,none⟩ (by simp;omega) (fun e=>(HMF.out _ e.symm).2 rfl)).trans ((hbA.cell (p:=⟨w.heap.size,2,none⟩) hbxo).trans x2);have z6:=(hgrow6.cell_far ⟨g,118+j,none⟩ (by simp;omega) (fun e=>(HMF.out _ e.symm).1 rfl)).trans ((hbA.cell (p:=⟨g,118+j,none⟩) hgo).trans m2);have z7:w6.frozen? ⟨g,118+j,none⟩=false:=by (rw [hgrow6.frozen_far ⟨g,118+j,none⟩ (by simp;omega) (fun e=>(HMF.out _ e.symm).1 rfl)];exact (HBX.out.below hbA hgo).frozen _)
  refine hK.out _ _ ?_ (fun hHeld=>?_)
  ·(try dsimp only);go_keep
  clear hK K
  refine tV 13 22 ?_
  (try simp only [Act.put,List.setIfInBounds_toArray])
  refine wpAnyH_ready (rs:=[14]) (by kernel_rfl) (by simp) ?_
  refine AllReadyH.cons rfl (fun K hK=>?_) AllReadyH.nil
  go_simp
  refine hK.out _ _ ?_ (fun hHeld=>?_)
  ·(try dsimp only);go_keep
  clear hK K
  refine wpAnyH_done (by kernel_rfl) ?_ _
  have hg7:Only (fun k=>(p.nw.lg j).ownBlock=some k) w w6:=(Only.of_below (F:=fun k=>(p.nw.lg j).ownBlock=some k) (hbx.trans (hbA.mono hbx.size))).trans (F':=fun k=>(p.nw.lg j).ownBlock=some k) ⟨hgrow6.os,hgrow6.tape,hgrow6.output,hgrow6.size,fun k hk hn=>hgrow6.block k hk (fun e=>hn e.symm)⟩ (fun k h=>Or.inl h)
  obtain⟨n1,n2⟩:=HDOC.out.setLog hn6 hj hown6 hg7 (fun b hb=>by
     obtain rfl:g6=b:=Option.some.inj hb
     rcases hat6 with h|h
     ·exact Or.inl h
     ·exact Or.inr (by omega))
  have HN1:=hide n1
  have HN2:=hide n2
  clear n1 n2
  go_wp2
  go_end0
  exact⟨rfl,_,HN1.out,HN2.out⟩
end Go.Proofs.Ytgigkiocdiffjab
namespace Go.Proofs.Ytgigkiocdiffjab
open Go.RowKit Veil
theorem dcDelete_lv (g n:Nat) (f:Nat→Nat→Bool) (rv pv:Value) (GR:Nat→Nat→Bool) (I:Nat→Nat) (Lg:NW) (level:Int) (a b:Int) (w:World) (hbox:PBox w g n f rv GR pv I Lg) (hlv:okL n level=false) :
  Calls Try.prog 14 #[.pointer (some ⟨g,0,none⟩),.int .i64 level,.int .i64 a,.int .i64 b] w fun e w'=>e=.returned (.int .i64 6)∧Below w.heap.size w w':=by
 have i0:=hbox.is
 have a0:=hbox.at
 have r0:=hbox.not
 have HQ:=hide (has_any n f level w)
 rw [hlv] at HQ
 clear hlv hbox
 go_enter Try.func14,Try.ntmps14
 go_wp2_with fail
 refine (HQ.out).mono ?_
 rintro e w1 ⟨rfl,hb1⟩
 clear i0 a0 r0
 go_wp2
 go_ret
 exact⟨rfl,hb1⟩
theorem dcDelete_at (c:Cfg) (row:List RC) (g n:Nat) (f:Nat→Nat→Bool) (rv pv:Value) (GR:Nat→Nat→Bool) (I:Nat→Nat) (Lg:NW) (B:Nat) (lv:Nat) (a b:Int) (w:World) (hbox:PBox w g n f rv GR pv I Lg) (hrl:OwnL 150 2 ruleV w B rv c.rules) (hce:OwnL 140 20 (pcV c) w B pv row) (hn:n=c.n) (hf:f=tT c) (hR:CfgRight c) (hrow:RowGood c row) (hlv:lv<c.n) (hpc:pieceB a b (placesR c row lv).length=false) :
  Calls Try.prog 14 #[.pointer (some ⟨g,0,none⟩),.int .i64 lv,.int .i64 a,.int .i64 b] w fun e w'=>e=.returned (.int .i64 7)∧Below w.heap.size w w':=by
 have HPL:=hide (fun (w':World) (hb:Below w.heap.size w w')=>dcPlaces_any c row g n f rv pv GR I Lg B lv w' (hbox.below hb hbox.lt) (hrl.below hb) (hce.below hb) hn hf hR hrow hlv)
 have HBX:=hide hbox
 have hgl:=hbox.lt
 have i0:=hbox.is
 have a0:=hbox.at
 have r0:=hbox.not
 have HQ:=hide (has_any n f lv w)
 rw [okL_lt (show lv<n by omega)] at HQ
 have HPC:=hide (fun (w':World)=>dcPiece_any a b (placesR c row lv).length w')
 rw [hpc] at HPC
 generalize placesR c row lv=P at *
 clear hbox hrl hce hn hf hR hrow hlv hpc
 go_enter Try.func14,Try.ntmps14
 go_wp2_with fail
 refine (HQ.out).mono ?_
 rintro e w1 ⟨rfl,hb1⟩
 clear i0 a0 r0
 go_wp2_with fail
 refine (HPL.out _ hb1).mono ?_
 rintro e w2 ⟨vl,rfl,hvl,hb2⟩
 have hbw:=hb1.trans (hb2.mono hb1.size)
 have hw1s:=hb1.size
 have HVL:=hide hvl
 obtain⟨ao,cap,hvv⟩:=hvl.shape
 subst hvv
 clear hb1 hb2 hvl
 go_wp2_with fail
 refine (HPC.out _).mono ?_
 rintro e w2' ⟨rfl,rfl⟩
 go_wp2
 go_ret
 exact⟨rfl,hbw⟩
theorem dcDelete_ok (c:Cfg) (row:List RC) (g n:Nat) (f:Nat→Nat→Bool) (rv pv:Value) (GR:Nat→Nat→Bool) (I:Nat→Nat) (Lg:NW) (B:Nat) (lv a b:Nat) (w:World) (hbox:PBox w g n f rv GR pv I Lg) (hrl:OwnL 150 2 ruleV w B rv c.rules) (hce:OwnL 140 20 (pcV c) w B pv row) (hn:n=c.n) (hf:f=tT c) (hR:CfgRight c) (hrow:RowGood c row) (hne:∀ b,pv.ownBlock=some b→g≠b) (hlv:lv<c.n) (hab:a<b) (hbl:b≤(placesR c row lv).length) (R:World→Prop) (ht:∀ w1,OwnL 140 20 (pcV c) w1 B pv (markAll row (cellsTo c row lv (placesR c row lv) a b) ⟨2,lv,0⟩)→Only (fun k=>pv.ownBlock=some k) w w1→Calls Try.prog 40 #[.pointer (some ⟨g,124,none⟩),.int .i64 2,.int .i64 lv,.int .i64 lv] w1 fun e w'=>e=.returned (.tuple #[])∧R w') :
  Calls Try.prog 14 #[.pointer (some ⟨g,0,none⟩),.int .i64 lv,.int .i64 a,.int .i64 b] w fun e w'=>e=.returned (.int .i64 0)∧R w':=by
 have HT:=hide ht
 clear ht
 have HPL:=hide (fun (w':World) (hb:Below w.heap.size w w')=>dcPlaces_any c row g n f rv pv GR I Lg B lv w' (hbox.below hb hbox.lt) (hrl.below hb) (hce.below hb) hn hf hR hrow hlv)
 have HBX:=hide hbox
 have hgl:=hbox.lt
 have i0:=hbox.is
 have a0:=hbox.at
 have r0:=hbox.not
 have HQ:=hide (has_any n f lv w)
 rw [okL_lt (show lv<n by omega)] at HQ
 have HPC:=hide (fun (w':World)=>dcPiece_any a b (placesR c row lv).length w')
 have hpcB:pieceB a b (placesR c row lv).length=true:=by unfold pieceB;simp;omega
 rw [hpcB] at HPC
 have HMK:=hide (cells_meant c row lv (fun x hx=>(hrow.cells x hx).1.byte) hab hbl ⟨2,lv,0⟩)
 have HRW:=hide (fun (w':World) (hb:Below w.heap.size w w') (first last:Nat)=>rwDelete_any c row g 74 n f pv B lv first last w' (hce.below hb) (hbox.below hb hbox.lt).row hne hn hf hR.labels (fun x hx=>(hrow.cells x hx).1) hlv (by decide) (by have:=hrow.length;omega))
 have HPB:=hide (fun b' (h:pv.ownBlock=some b')=>(hce.lt h).2)
 have hPl:(placesR c row lv).length≤1200:=Nat.le_trans (placesR_ok c row lv (fun x hx=>(hrow.cells x hx).1.byte)).1 hrow.length
 generalize hP:placesR c row lv=P at *
 clear hbox hrl hce hn hf hR hrow hlv hpcB hne hP
 go_enter Try.func14,Try.ntmps14
 go_wp2_with fail
 refine (HQ.out).mono ?_
 rintro e w1 ⟨rfl,hb1⟩
 clear i0 a0 r0
 go_wp2_with fail
 refine (HPL.out _ hb1).mono ?_
 rintro e w2 ⟨vl,rfl,hvl,hb2⟩
 have hbw:=hb1.trans (hb2.mono hb1.size)
 have hw1s:=hb1.size
 have HVL:=hide hvl
 obtain⟨ao,cap,hvv⟩:=hvl.shape
 subst hvv
 clear hb1 hb2 hvl
 go_wp2_with fail
 refine (HPC.out _).mono ?_
 rintro e w2' ⟨rfl,rfl⟩
 obtain⟨gp,cp,hvv,hgp0,hgp⟩:=HVL.out.form (by omega)
 simp only [Value.slice.injEq] at hvv
 obtain⟨rfl,_,rfl⟩:=hvv
 have hea:P[a]?=some (P[a]'(by omega)):=List.getElem?_eq_getElem (by omega)
 have heb:P[b-1]?=some (P[b-1]'(by omega)):=List.getElem?_eq_getElem (by omega)
 have p1:=HVL.out.cell (show ∀ a,(placeV a).length=3 from fun _=>rfl) rfl hea (j:=1) (by omega)
 have p2:=HVL.out.cell (show ∀ a,(placeV a).length=3 from fun _=>rfl) rfl heb (j:=2) (by omega)
 have hfa:plAt P a=P[a]'(by omega):=plAt_lt (by omega)
 have hlb1:plAt P (b-1)=P[b-1]'(by omega):=plAt_lt (by omega)
 rw [hfa,hlb1] at HMK
 generalize (P[a]'(by omega))=pa at *
 generalize (P[b-1]'(by omega))=pb at *
 obtain⟨m,hm1,hm2⟩:∃ m:Nat,(b:Int)-1=(m:Int)∧b-1=m:=⟨b-1,by omega,rfl⟩
 have hmi:(m:Int)<(P.length:Int):=by omega
 have hai:(a:Int)<(P.length:Int):=by omega
 have hwm:IntKind.i64.wrap (m:Int)=(m:Int):=by rw [IntKind.wrap_i64];omega
 rw [hm2] at p2
 obtain⟨pa1,pa2,pa3⟩:=pa
 obtain⟨pb1,pb2,pb3⟩:=pb
 have p1':w2.cell? ⟨gp,a*3+1,none⟩=some (.int .i64 pa2):=p1
 have p2':w2.cell? ⟨gp,m*3+2,none⟩=some (.int .i64 pb3):=p2
 simp only at HMK
 have HRX:=hide (HRW.out w2.drew hbw.drew pa2 pb3)
 rw [← HMK.out] at HRX
 generalize hML:markAll row (cellsTo c row lv P a b) ⟨2,lv,0⟩=row' at *
 have hnf:¬ pv.ownBlock=some gp:=fun h=>by have:=HPB.out gp h;omega
 have HNF:=hide hnf
 have HML:=hide hML
 have HM2:=hide hm2
 clear hea heb p1 p2 hfa hlb1 hm2 hML
 go_wp2_with fail
 refine wp_region_held_drew (S:=(fun w'=>w'.cell? ⟨gp,a*3+1,none⟩=some (.int .i64 pa2)∧w'.cell? ⟨gp,m*3+2,none⟩=some (.int .i64 pb3))) (by kernel_rfl) ?_ (fun hHeld=>?_)
 ·exact⟨p1',p2'⟩
 refine tV 0 26 ?_
 (try simp only [Act.put,lA,lZ,lS])
 refine tV 1 27 ?_
 (try simp only [Act.put,lA,lZ,lS])
 refine tV 2 28 ?_
 (try simp only [Act.put,lA,lZ,lS])
 refine tV 3 29 ?_
 (try simp only [Act.put,lA,lZ,lS])
 refine tV 4 30 ?_
 (try simp only [Act.put,lA,lZ,lS])
 refine tV 5 31 ?_
 (try simp only [Act.put,lA,lZ,lS])
 refine tV 6 32 ?_
 (try simp only [Act.put,lA,lZ,lS])
 refine tV 7 33 ?_
 (try simp only [Act.put,lA,lZ,lS])
 refine tV 8 34 ?_
 (try simp only [Act.put,lA,lZ,lS])
 refine tV 9 35 ?_
 (try simp only [Act.put,lA,lZ,lS])
 refine tV 10 36 ?_
 (try simp only [Act.put,lA,lZ,lS])
 refine tV 11 37 ?_
 (try simp only [Act.put,lA,lZ,lS])
 refine tV 12 38 ?_
 (try simp only [Act.put,lA,lZ,lS])
 refine tV 13 39 ?_
 (try simp only [Act.put,lA,lZ,lS])
 refine tV 14 40 ?_
 (try simp only [Act.put,lA,lZ,lS])
 refine wpAnyH_ready (rs:=[15]) (by kernel_rfl) (by simp) ?_
 refine AllReadyH.cons rfl (fun K hK=>?_) AllReadyH.nil
 go_simp
 go_wp2_with (go_at_call 43;refine (HRX.out).mono ?_;rintro e w3 ⟨rfl,hown3,honly3⟩;have z1:=(honly3.cellAt (a:=⟨gp,a*3+1,none⟩) hgp hnf).trans p1';have z2:=(honly3.cellAt (a:=⟨gp,m*3+2,none⟩) hgp hnf).trans p2')
 refine hK.out _ _ ?_ (fun hHeld=>?_)
 ·exact⟨z1,z2⟩
 clear hK K
 refine wpAnyH_done (by kernel_rfl) ?_ _
 have HO3:=hide hown3
 have HN3:=hide ((Only.of_below (F:=fun k=>pv.ownBlock=some k) hbw.drew).trans honly3 (fun k h=>Or.inl h))
 clear hown3 honly3
 go_wp2_with fail
 refine (HT.out _ (by first|exact HO3.out|(rw [HML.out];exact HO3.out)) HN3.out).mono ?_
 rintro e w4 ⟨rfl,hR4⟩
 go_wp2
 go_ret
 exact⟨rfl,hR4⟩
theorem dcRaise_lv (g n:Nat) (f:Nat→Nat→Bool) (rv pv:Value) (GR:Nat→Nat→Bool) (I:Nat→Nat) (Lg:NW) (level:Int) (a b lb:Int) (w:World) (hbox:PBox w g n f rv GR pv I Lg) (hlv:okL n level=false) :
  Calls Try.prog 26 #[.pointer (some ⟨g,0,none⟩),.int .i64 level,.int .i64 a,.int .i64 b,.int .i64 lb] w fun e w'=>e=.returned (.int .i64 6)∧Below w.heap.size w w':=by
 have i0:=hbox.is
 have a0:=hbox.at
 have r0:=hbox.not
 have HQ:=hide (has_any n f level w)
 rw [hlv] at HQ
 clear hlv hbox
 go_enter Try.func26,Try.ntmps26
 go_wp2_with fail
 refine (HQ.out).mono ?_
 rintro e w1 ⟨rfl,hb1⟩
 clear i0 a0 r0
 go_wp2
 go_ret
 exact⟨rfl,hb1⟩
theorem dcRaise_lb (g n:Nat) (f:Nat→Nat→Bool) (rv pv:Value) (GR:Nat→Nat→Bool) (I:Nat→Nat) (Lg:NW) (level:Int) (a b lb:Int) (w:World) (hbox:PBox w g n f rv GR pv I Lg) (hlv:okL n level=true) (hlb:okL n lb=false) :
  Calls Try.prog 26 #[.pointer (some ⟨g,0,none⟩),.int .i64 level,.int .i64 a,.int .i64 b,.int .i64 lb] w fun e w'=>e=.returned (.int .i64 6)∧Below w.heap.size w w':=by
 have HBX:=hide hbox
 have hgl:=hbox.lt
 have i0:=hbox.is
 have a0:=hbox.at
 have r0:=hbox.not
 have HQ:=hide (has_any n f level w)
 have HQ2:=hide (fun w'=>has_any n f lb w')
 rw [hlv] at HQ
 rw [hlb] at HQ2
 clear hlv hlb hbox
 go_enter Try.func26,Try.ntmps26
 go_wp2_with fail
 refine (HQ.out).mono ?_
 rintro e w1 ⟨rfl,hb1⟩
 have i1:=(HBX.out.below hb1 hgl).is
 have a1:=(HBX.out.below hb1 hgl).at
 have r1:=(HBX.out.below hb1 hgl).not
 clear i0 a0 r0
 go_wp2_with fail
 refine (HQ2.out w1).mono ?_
 rintro e w1' ⟨rfl,hb1'⟩
 clear i1 a1 r1
 replace hb1:=hb1.trans (hb1'.mono hb1.size)
 clear hb1'
 go_wp2
 go_ret
 exact⟨rfl,hb1⟩
theorem dcRaise_at (c:Cfg) (row:List RC) (g n:Nat) (f:Nat→Nat→Bool) (rv pv:Value) (GR:Nat→Nat→Bool) (I:Nat→Nat) (Lg:NW) (B:Nat) (lv:Nat) (a b:Int) (lb:Nat) (w:World) (hbox:PBox w g n f rv GR pv I Lg) (hrl:OwnL 150 2 ruleV w B rv c.rules) (hce:OwnL 140 20 (pcV c) w B pv row) (hn:n=c.n) (hf:f=tT c) (hR:CfgRight c) (hrow:RowGood c row) (hlv:lv<c.n) (hlb:lb<c.n) (hpc:pieceB a b (placesR c row lv).length=false) :
  Calls Try.prog 26 #[.pointer (some ⟨g,0,none⟩),.int .i64 lv,.int .i64 a,.int .i64 b,.int .i64 lb] w fun e w'=>e=.returned (.int .i64 7)∧Below w.heap.size w w':=by
 have HPL:=hide (fun (w':World) (hb:Below w.heap.size w w')=>dcPlaces_any c row g n f rv pv GR I Lg B lv w' (hbox.below hb hbox.lt) (hrl.below hb) (hce.below hb) hn hf hR hrow hlv)
 have HBX:=hide hbox
 have hgl:=hbox.lt
 have i0:=hbox.is
 have a0:=hbox.at
 have r0:=hbox.not
 have HQ:=hide (has_any n f lv w)
 rw [okL_lt (show lv<n by omega)] at HQ
 have HQ2:=hide (fun w'=>has_any n f lb w')
 rw [okL_lt (show lb<n by omega)] at HQ2
 have HPC:=hide (fun (w':World)=>dcPiece_any a b (placesR c row lv).length w')
 rw [hpc] at HPC
 generalize placesR c row lv=P at *
 clear hbox hrl hce hn hf hR hrow hlv hpc
 clear hlb
 go_enter Try.func26,Try.ntmps26
 go_wp2_with fail
 refine (HQ.out).mono ?_
 rintro e w1 ⟨rfl,hb1⟩
 have i1:=(HBX.out.below hb1 hgl).is
 have a1:=(HBX.out.below hb1 hgl).at
 have r1:=(HBX.out.below hb1 hgl).not
 clear i0 a0 r0
 go_wp2_with fail
 refine (HQ2.out w1).mono ?_
 rintro e w1' ⟨rfl,hb1'⟩
 clear i1 a1 r1
 replace hb1:=hb1.trans (hb1'.mono hb1.size)
 clear hb1'
 go_wp2_with fail
 refine (HPL.out _ hb1).mono ?_
 rintro e w2 ⟨vl,rfl,hvl,hb2⟩
 have hbw:=hb1.trans (hb2.mono hb1.size)
 have hw1s:=hb1.size
 have HVL:=hide hvl
 obtain⟨ao,cap,hvv⟩:=hvl.shape
 subst hvv
 clear hb1 hb2 hvl
 go_wp2_with fail
 refine (HPC.out _).mono ?_
 rintro e w2' ⟨rfl,rfl⟩
 go_wp2
 go_ret
 exact⟨rfl,hbw⟩
theorem dcRaise_ok (c:Cfg) (row:List RC) (g n:Nat) (f:Nat→Nat→Bool) (rv pv:Value) (GR:Nat→Nat→Bool) (I:Nat→Nat) (Lg:NW) (B:Nat) (lv a b:Nat) (lb:Nat) (w:World) (hbox:PBox w g n f rv GR pv I Lg) (hrl:OwnL 150 2 ruleV w B rv c.rules) (hce:OwnL 140 20 (pcV c) w B pv row) (hn:n=c.n) (hf:f=tT c) (hR:CfgRight c) (hrow:RowGood c row) (hne:∀ b,pv.ownBlock=some b→g≠b) (hlv:lv<c.n) (hlb:lb<c.n) (hab:a<b) (hbl:b≤(placesR c row lv).length) (R:World→Prop) (ht:∀ w1,OwnL 140 20 (pcV c) w1 B pv (markAll row (cellsTo c row lv (placesR c row lv) a b) ⟨3,lv,lb⟩)→Only (fun k=>pv.ownBlock=some k) w w1→Calls Try.prog 40 #[.pointer (some ⟨g,124,none⟩),.int .i64 3,.int .i64 lv,.int .i64 lv] w1 fun e w'=>e=.returned (.tuple #[])∧R w') :
  Calls Try.prog 26 #[.pointer (some ⟨g,0,none⟩),.int .i64 lv,.int .i64 a,.int .i64 b,.int .i64 lb] w fun e w'=>e=.returned (.int .i64 0)∧R w':=by
 have HT:=hide ht
 clear ht
 have HPL:=hide (fun (w':World) (hb:Below w.heap.size w w')=>dcPlaces_any c row g n f rv pv GR I Lg B lv w' (hbox.below hb hbox.lt) (hrl.below hb) (hce.below hb) hn hf hR hrow hlv)
 have HBX:=hide hbox
 have hgl:=hbox.lt
 have i0:=hbox.is
 have a0:=hbox.at
 have r0:=hbox.not
 have HQ:=hide (has_any n f lv w)
 rw [okL_lt (show lv<n by omega)] at HQ
 have HQ2:=hide (fun w'=>has_any n f lb w')
 rw [okL_lt (show lb<n by omega)] at HQ2
 have HPC:=hide (fun (w':World)=>dcPiece_any a b (placesR c row lv).length w')
 have hpcB:pieceB a b (placesR c row lv).length=true:=by unfold pieceB;simp;omega
 rw [hpcB] at HPC
 have HMK:=hide (cells_meant c row lv (fun x hx=>(hrow.cells x hx).1.byte) hab hbl ⟨3,lv,lb⟩)
 have HRW:=hide (fun (w':World) (hb:Below w.heap.size w w') (first last:Nat)=>rwRaise_any c row g 74 n f pv B lv lb first last w' (hce.below hb) (hbox.below hb hbox.lt).row hne hn hf hR.labels (fun x hx=>(hrow.cells x hx).1) hR.lat hlv hlb (by decide) (by have:=hrow.length;omega))
 have HPB:=hide (fun b' (h:pv.ownBlock=some b')=>(hce.lt h).2)
 have hPl:(placesR c row lv).length≤1200:=Nat.le_trans (placesR_ok c row lv (fun x hx=>(hrow.cells x hx).1.byte)).1 hrow.length
 generalize hP:placesR c row lv=P at *
 clear hbox hrl hce hn hf hR hrow hlv hpcB hne hP
 clear hlb
 go_enter Try.func26,Try.ntmps26
 go_wp2_with fail
 refine (HQ.out).mono ?_
 rintro e w1 ⟨rfl,hb1⟩
 have i1:=(HBX.out.below hb1 hgl).is
 have a1:=(HBX.out.below hb1 hgl).at
 have r1:=(HBX.out.below hb1 hgl).not
 clear i0 a0 r0
 go_wp2_with fail
 refine (HQ2.out w1).mono ?_
 rintro e w1' ⟨rfl,hb1'⟩
 clear i1 a1 r1
 replace hb1:=hb1.trans (hb1'.mono hb1.size)
 clear hb1'
 go_wp2_with fail
 refine (HPL.out _ hb1).mono ?_
 rintro e w2 ⟨vl,rfl,hvl,hb2⟩
 have hbw:=hb1.trans (hb2.mono hb1.size)
 have hw1s:=hb1.size
 have HVL:=hide hvl
 obtain⟨ao,cap,hvv⟩:=hvl.shape
 subst hvv
 clear hb1 hb2 hvl
 go_wp2_with fail
 refine (HPC.out _).mono ?_
 rintro e w2' ⟨rfl,rfl⟩
 obtain⟨gp,cp,hvv,hgp0,hgp⟩:=HVL.out.form (by omega)
 simp only [Value.slice.injEq] at hvv
 obtain⟨rfl,_,rfl⟩:=hvv
 have hea:P[a]?=some (P[a]'(by omega)):=List.getElem?_eq_getElem (by omega)
 have heb:P[b-1]?=some (P[b-1]'(by omega)):=List.getElem?_eq_getElem (by omega)
 have p1:=HVL.out.cell (show ∀ a,(placeV a).length=3 from fun _=>rfl) rfl hea (j:=1) (by omega)
 have p2:=HVL.out.cell (show ∀ a,(placeV a).length=3 from fun _=>rfl) rfl heb (j:=2) (by omega)
 have hfa:plAt P a=P[a]'(by omega):=plAt_lt (by omega)
 have hlb1:plAt P (b-1)=P[b-1]'(by omega):=plAt_lt (by omega)
 rw [hfa,hlb1] at HMK
 generalize (P[a]'(by omega))=pa at *
 generalize (P[b-1]'(by omega))=pb at *
 obtain⟨m,hm1,hm2⟩:∃ m:Nat,(b:Int)-1=(m:Int)∧b-1=m:=⟨b-1,by omega,rfl⟩
 have hmi:(m:Int)<(P.length:Int):=by omega
 have hai:(a:Int)<(P.length:Int):=by omega
 have hwm:IntKind.i64.wrap (m:Int)=(m:Int):=by rw [IntKind.wrap_i64];omega
 rw [hm2] at p2
 obtain⟨pa1,pa2,pa3⟩:=pa
 obtain⟨pb1,pb2,pb3⟩:=pb
 have p1':w2.cell? ⟨gp,a*3+1,none⟩=some (.int .i64 pa2):=p1
 have p2':w2.cell? ⟨gp,m*3+2,none⟩=some (.int .i64 pb3):=p2
 simp only at HMK
 have HRX:=hide (HRW.out w2.drew hbw.drew pa2 pb3)
 rw [← HMK.out] at HRX
 generalize hML:markAll row (cellsTo c row lv P a b) ⟨3,lv,lb⟩=row' at *
 have hnf:¬ pv.ownBlock=some gp:=fun h=>by have:=HPB.out gp h;omega
 have HNF:=hide hnf
 have HML:=hide hML
 have HM2:=hide hm2
 clear hea heb p1 p2 hfa hlb1 hm2 hML
 go_wp2_with fail
 refine wp_region_held_drew (S:=(fun w'=>w'.cell? ⟨gp,a*3+1,none⟩=some (.int .i64 pa2)∧w'.cell? ⟨gp,m*3+2,none⟩=some (.int .i64 pb3))) (by kernel_rfl) ?_ (fun hHeld=>?_)
 ·exact⟨p1',p2'⟩
 refine tV 0 37 ?_
 (try simp only [Act.put,lA,lZ,lS])
 refine tV 1 38 ?_
 (try simp only [Act.put,lA,lZ,lS])
 refine tV 2 39 ?_
 (try simp only [Act.put,lA,lZ,lS])
 refine tV 3 40 ?_
 (try simp only [Act.put,lA,lZ,lS])
 refine tV 4 41 ?_
 (try simp only [Act.put,lA,lZ,lS])
 refine tV 5 42 ?_
 (try simp only [Act.put,lA,lZ,lS])
 refine tV 6 43 ?_
 (try simp only [Act.put,lA,lZ,lS])
 refine tV 7 44 ?_
 (try simp only [Act.put,lA,lZ,lS])
 refine tV 8 45 ?_
 (try simp only [Act.put,lA,lZ,lS])
 refine tV 9 46 ?_
 (try simp only [Act.put,lA,lZ,lS])
 refine tV 10 47 ?_
 (try simp only [Act.put,lA,lZ,lS])
 refine tV 11 48 ?_
 (try simp only [Act.put,lA,lZ,lS])
 refine tV 12 49 ?_
 (try simp only [Act.put,lA,lZ,lS])
 refine tV 13 50 ?_
 (try simp only [Act.put,lA,lZ,lS])
 refine tV 14 51 ?_
 (try simp only [Act.put,lA,lZ,lS])
 refine tV 15 52 ?_
 (try simp only [Act.put,lA,lZ,lS])
 refine wpAnyH_ready (rs:=[16]) (by kernel_rfl) (by simp) ?_
 refine AllReadyH.cons rfl (fun K hK=>?_) AllReadyH.nil
 go_simp
 go_wp2_with (go_at_call 51;refine (HRX.out).mono ?_;rintro e w3 ⟨rfl,hown3,honly3⟩;have z1:=(honly3.cellAt (a:=⟨gp,a*3+1,none⟩) hgp hnf).trans p1';have z2:=(honly3.cellAt (a:=⟨gp,m*3+2,none⟩) hgp hnf).trans p2')
 refine hK.out _ _ ?_ (fun hHeld=>?_)
 ·exact⟨z1,z2⟩
 clear hK K
 refine wpAnyH_done (by kernel_rfl) ?_ _
 have HO3:=hide hown3
 have HN3:=hide ((Only.of_below (F:=fun k=>pv.ownBlock=some k) hbw.drew).trans honly3 (fun k h=>Or.inl h))
 clear hown3 honly3
 go_wp2_with fail
 refine (HT.out _ (by first|exact HO3.out|(rw [HML.out];exact HO3.out)) HN3.out).mono ?_
 rintro e w4 ⟨rfl,hR4⟩
 go_wp2
 go_ret
 exact⟨rfl,hR4⟩
end Go.Proofs.Ytgigkiocdiffjab
