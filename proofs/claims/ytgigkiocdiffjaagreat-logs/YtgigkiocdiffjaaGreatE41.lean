import Derived.Test.YtgigkiocdiffjaaGreatE40
import Derived.Test.YtgigkiocdiffjaaGreatE39
import Derived.Test.YtgigkiocdiffjaaGreatE37
import Derived.Test.YtgigkiocdiffjaaGreatE23
import Derived.Test.YtgigkiocdiffjaaGreatE15
import Derived.Test.YtgigkiocdiffjaaGreatE24
import Derived.Test.YtgigkiocdiffjaaGreatE38
set_option maxRecDepth 100000
set_option maxHeartbeats 16000000
namespace Go.Proofs.YtgigkiocdiffjaaGreat
open Go.RowKit Veil
theorem mask_places {P:List Pl} (hP:∀ j,j<P.length→plB P j<256) {a:Nat}:∀ {b:Nat},a≤b→b≤P.length→maskTo (viewT P) a b=((P.drop a).take (b-a)).any (fun p=>p.b == 35):=by
 intro b
 induction b with
 | zero=>
  intro h _;obtain rfl:a=0:=by omega
  simp [maskTo]
 | succ b ih=>
  intro hab hb
  by_cases h:a=b+1
  ·subst h;simp [maskTo]
  ·have hle:a≤b:=by omega
   rw [maskTo_succ hle,ih hle (by omega),show b+1-a=(b-a)+1 by omega,List.take_add_one,List.any_append]
   have e1:(P.drop a)[b-a]?=some P[b]:=by
    rw [List.getElem?_drop,show a+(b-a)=b by omega,List.getElem?_eq_getElem (by omega)]
   rw [e1]
   have e2:bt (viewT P) b=P[b].b:=by
    unfold viewT
    rw [bt_textF _ _ _ (by omega) (hP b (by omega)),plB_at (List.getElem?_eq_getElem (by omega))]
   rw [e2]
   simp
theorem log_add {c:Cfg} {acts:List RA} {b tg:Nat} {n:Int} (i:Nat):logOf c (acts++[⟨4,b,tg,n⟩]) i=updF (logOf c acts) tg (logOf c acts tg++[⟨b,n,(tellV c tg (verOf c acts) tg:Nat)⟩]) i:=by
 rw [logOf_snoc]
 by_cases h:i=tg
 ·subst h
  rw [updF_same,tell_ver (by decide)]
  simp
 ·rw [updF_other _ _ h]
  have h2:((tg:Int) == (i:Int))=false:=by rw [beq_eq_false_iff_ne];omega
  simp only [h2,Bool.and_false,cond_false]
theorem plTo_one (A B:Nat→Nat) (h:Nat→Bool):∀ k,(∀ p,p ∈ plTo A B h k→p.b≠35→p.first=p.last∧∃ j,j<k∧p.first=A j)∧(0<k→h (k-1)=true→∃ p,(plTo A B h k)[(plTo A B h k).length-1]?=some p∧p.b=35):=by
 intro k
 induction k with
 | zero=>exact⟨fun p hp=>(by cases hp),fun h0=>(by omega)⟩
 | succ k ih=>
  unfold plTo
  cases hk:h k
  ·simp only [cond_false]
   refine⟨fun p hp h35=>?_,fun _ h1=>by simp [hk] at h1⟩
   simp only [List.mem_append,List.mem_singleton] at hp
   rcases hp with hp|rfl
   ·obtain⟨h1,j,h2,h3⟩:=ih.1 p hp h35
    exact⟨h1,j,by omega,h3⟩
   ·exact⟨rfl,k,by omega,rfl⟩
  ·simp only [cond_true]
   cases hk':(decide (0<k) && h (k-1))
   ·simp only [cond_false]
    refine⟨fun p hp h35=>?_,fun _ _=>⟨⟨35,A k,A k⟩,by simp,rfl⟩⟩
    simp only [List.mem_append,List.mem_singleton] at hp
    rcases hp with hp|rfl
    ·obtain⟨h1,j,h2,h3⟩:=ih.1 p hp h35
     exact⟨h1,j,by omega,h3⟩
    ·exact absurd rfl h35
   ·simp only [cond_true]
    simp only [Bool.and_eq_true,decide_eq_true_eq] at hk'
    obtain⟨q,hq1,hq2⟩:=ih.2 hk'.1 hk'.2
    have hlen:(lastTo (plTo A B h k) (A k)).length=(plTo A B h k).length:=by simp [lastTo]
    refine⟨fun p hp h35=>?_,fun _ _=>⟨⟨q.b,q.first,A k⟩,?_,hq2⟩⟩
    ·obtain⟨i,hi,he⟩:=List.getElem_of_mem hp
     have hg:(lastTo (plTo A B h k) (A k))[i]?=some p:=by rw [← he];exact List.getElem?_eq_getElem hi
     unfold lastTo at hg
     rw [List.getElem?_modify] at hg
     by_cases hil:(plTo A B h k).length-1=i
     ·rw [← hil,hq1] at hg
      simp at hg
      exact absurd (by rw [← hg];exact hq2) h35
     ·cases hr:(plTo A B h k)[i]? with
      | none=>rw [hr] at hg;simp at hg
      | some y=>
       rw [hr] at hg
       simp [hil] at hg
       obtain⟨h1,j,h2,h3⟩:=ih.1 p (by rw [← hg];exact List.mem_of_getElem? hr) h35
       exact⟨h1,j,by omega,h3⟩
    ·rw [hlen]
     unfold lastTo
     rw [List.getElem?_modify,hq1]
     simp
theorem place_one {c:Cfg} {row:List RC} {d:Nat} {p:Pl} (hp:p ∈ placesR c row d) (h35:p.b≠35):p.first=p.last∧thR c row d p.first=true:=by
 unfold placesR placesF at hp
 obtain⟨h1,j,h2,h3⟩:=(plTo_one _ _ _ _).1 p hp h35
 refine⟨h1,?_⟩
 rw [h3]
 have hm:numF (atTo c row d row.length) j ∈ atTo c row d row.length:=by
  unfold numF
  rw [List.getD,List.getElem?_eq_getElem h2]
  exact List.getElem_mem h2
 unfold atTo at hm
 exact (List.mem_filter.1 hm).2
theorem cells_mask {c:Cfg} {row:List RC} {d a:Nat}:∀ {b:Nat},a≤b→b≤(placesR c row d).length→(((placesR c row d).drop a).take (b-a)).any (fun p=>p.b == 35)=false→(cellsTo c row d (placesR c row d) a b).length=b-a:=by
 intro b
 induction b with
 | zero=>
  intro h _ _;obtain rfl:a=0:=by omega
  simp [cellsTo]
 | succ b ih=>
  intro hab hb hm
  by_cases h:a=b+1
  ·subst h;simp [cellsTo]
  ·have hle:a≤b:=by omega
   have e1:((placesR c row d).drop a)[b-a]?=some (placesR c row d)[b]:=by
    rw [List.getElem?_drop,show a+(b-a)=b by omega,List.getElem?_eq_getElem (by omega)]
   rw [show b+1-a=(b-a)+1 by omega,List.take_add_one,List.any_append,e1] at hm
   simp only [Bool.or_eq_false_iff] at hm
   have hb35:(placesR c row d)[b].b≠35:=by simpa using hm.2
   obtain⟨h1,h2⟩:=place_one (List.getElem_mem (show b<(placesR c row d).length by omega)) hb35
   rw [cellsTo_succ hle,List.length_append,ih hle (by omega) hm.1,plAt_lt (show b<(placesR c row d).length by omega),← h1]
   have h3:cellsIn c row d (placesR c row d)[b].first (placesR c row d)[b].first=[]:=by simp [cellsIn]
   rw [cellsIn_yes (Nat.le_refl _) h2,h3]
   simp;omega
theorem doc_release (w0 w:World) (s:DS) (k:Nat) (o:OpR) (h:DocI w0 w s k) (hk:k≤4000000000000) (hko:o.kind=14) :
  Calls Tryz.prog 90 #[.agg (pairC s.pd s.rd),.agg o.cells] w fun e w'=>e=.returned (.bool true)∧EditOk w0 w s k w':=by
 have hok:=h.rdocOk (Nat.le_trans hk (by decide))
 obtain⟨_,_,_,_,hn,_,hn1⟩:=labels_of h.right.labels
 have refuse:∀ code:Int,(∀ w',Below w.heap.size w w'→Calls Tryz.prog 27 #[.pointer (some ⟨s.pd,0,none⟩),.int .i64 o.b,.int .i64 o.c,.int .i64 o.d,.int .i64 o.e] w' fun e w''=>e=.returned (.int .i64 code)∧Below w'.heap.size w' w'')→(∀ w',Below w.heap.size w w'→Calls Tryz.prog 135 #[.pointer (some ⟨s.rd,0,none⟩),.int .i64 o.b,.int .i64 o.c,.int .i64 o.d,.int .i64 o.e] w' fun e w''=>e=.returned (.int .i64 code)∧Below w'.heap.size w' w'')→Calls Tryz.prog 90 #[.agg (pairC s.pd s.rd),.agg o.cells] w fun e w'=>e=.returned (.bool true)∧EditOk w0 w s k w':=fun code hP hR=>by
  refine edited_release s.pd s.rd o (fun w' w'' code'=>code'=code∧Below w'.heap.size w' w'') (EditOk w0 w s k) w hko (fun w' hb=>(hP w' hb).mono fun e w'' ⟨h1,h2⟩=>⟨code,h1,⟨rfl,h2⟩,fun k _ hk=>h2.block k hk⟩) (fun w' w'' code' hb ⟨hc,hb'⟩=>?_)
  subst hc
  have hbb:=hb.trans (hb'.mono hb.size)
  exact (hR w'' hbb).mono fun e w3 ⟨h1,h2⟩=>⟨h1,EditOk.same h (hbb.trans (h2.mono hbb.size))⟩
 cases hlv:okL s.c.labels o.b
 ·exact refuse 6 (fun w' hb=>dcRelease_lv s.pd _ _ _ _ _ _ _ o.b o.c o.d o.e w' (h.box.below hb h.box.lt) (by rw [h.okL];exact hlv)) (fun w' hb=>rrelease_no1 s.c s.v s.rows s.rrv s.rav s.rd o.b o.c o.d o.e w' (h.below hb).ref.read hlv)
 cases hlb:okL s.c.labels o.e
 ·exact refuse 6 (fun w' hb=>dcRelease_lb s.pd _ _ _ _ _ _ _ o.b o.c o.d o.e w' (h.box.below hb h.box.lt) (by rw [h.okL];exact hlv) (by rw [h.okL];exact hlb)) (fun w' hb=>rrelease_no1b s.c s.v s.rows s.rrv s.rav s.rd o.b o.c o.d o.e w' (h.below hb).ref.read hlv hlb)
 obtain⟨lb,hlb1,hlb2⟩:=okL_nat' hn hlb
 obtain⟨lv,hlv1,hlv2⟩:=okL_nat' hn hlv
 have hlv':okL s.c.labels (lv:Int)=true:=by rw [← hlv1];exact hlv
 have hlb':okL s.c.labels (lb:Int)=true:=by rw [← hlb1];exact hlb
 have hP:∀ w',Below w.heap.size w w'→DocI w0 w' s k:=fun w' hb=>h.below hb
 cases hgr:s.c.grants.any (grantIs lv lb)
 ·refine refuse 10 (fun w' hb=>?_) (fun w' hb=>?_)
  ·rw [hlv1,hlb1]
   exact dcRelease_gr s.pd _ _ _ _ _ _ _ lv lb o.c o.d w' (hP w' hb).box h.n6 hlv2 hlb2 hgr
  ·rw [hlv1,hlb1]
   exact rrelease_no2 s.c s.v s.rows s.rrv s.rav s.rd lv o.c o.d lb w' (hP w' hb).ref.read hok hlv' hlb' hgr
 cases hpc:pieceB o.c o.d (placesR s.c s.row lv).length
 ·refine refuse 7 (fun w' hb=>?_) (fun w' hb=>?_)
  ·rw [hlv1,hlb1]
   exact dcRelease_at s.c s.row s.pd _ _ s.pv.rv s.pv.pv _ _ _ w0.heap.size lv lb o.c o.d w' (hP w' hb).box (hP w' hb).rules (hP w' hb).cells rfl rfl h.right h.rowGood hlv2 hlb2 hgr hpc
  ·rw [hlv1,hlb1]
   exact rrelease_no3 s.c s.v s.rows s.rrv s.rav s.rd lv o.c o.d lb w' (hP w' hb).ref.read hok hlv' hlb' hgr (piece_no hpc)
 obtain⟨x,y,hx,hy,hxy,hyl⟩:=piece_yes hpc
 have hcb:=cells_bound h.bytes (h.good.length h.n6) hxy hyl
 have hmm:=cells_meant s.c s.row lv h.bytes hxy hyl ⟨4,lb,0⟩
 obtain⟨_,hp2⟩:=places_of hok lv
 have hmk:maskTo (viewT (placesR s.c s.row lv)) x y=(((placesR s.c s.row lv).drop x).take (y-x)).any (fun p=>p.b == 35):=mask_places (fun j _=>plB_ok hp2 j) (Nat.le_of_lt hxy) hyl
 have hany:∀ w'',RDocO w0 w'' s.rd s.c s.v s.rows s.acts s.rrv s.rav→Calls Tryz.prog 135 #[.pointer (some ⟨s.rd,0,none⟩),.int .i64 lv,.int .i64 x,.int .i64 y,.int .i64 lb] w'' fun e w'=>∃ code,e=.returned (.int .i64 code)∧RelIs w0 w'' w' s.rd s.c s.v s.rows s.acts s.rrv s.rav lv x y lb (cellsTo s.c s.row lv (placesR s.c s.row lv) x y) (viewT (placesR s.c s.row lv)) code:=fun w'' hrefk=>
  rrelease_any w0 w'' s.rd s.c s.v s.rows s.acts s.rrv s.rav lv x y lb hrefk hok hlv' hlb' hgr hxy hyl h.acts.2 (h.mks hk) (Nat.le_trans h.acts.1 hk) (by simpa [DS.row] using hcb)
 cases hmask:(((placesR s.c s.row lv).drop x).take (y-x)).any (fun p=>p.b == 35)
 case true=>
  refine refuse 11 (fun w' hb=>?_) (fun w' hb=>?_)
  ·rw [hlv1,hx,hy,hlb1]
   exact dcRelease_mask s.c s.row s.pd _ _ s.pv.rv s.pv.pv _ _ _ w0.heap.size lv x y lb w' (hP w' hb).box (hP w' hb).rules (hP w' hb).cells rfl rfl h.right h.rowGood hlv2 hlb2 hgr h.ne hxy hyl hmask
  ·rw [hlv1,hx,hy,hlb1]
   refine (hany w' (hP w' hb).ref).mono ?_
   rintro e w'' ⟨code,rfl,hI⟩
   obtain⟨rfl,hb'⟩:=hI.mask (by rw [hmk];exact hmask)
   exact⟨rfl,hb'⟩
 rw [hmask] at hmk
 cases hst:(cellsTo s.c s.row lv (placesR s.c s.row lv) x y).all (mayR s.c s.row lb)
 ·refine refuse 12 (fun w' hb=>?_) (fun w' hb=>?_)
  ·rw [hlv1,hx,hy,hlb1]
   exact dcRelease_stem s.c s.row s.pd _ _ s.pv.rv s.pv.pv _ _ _ w0.heap.size lv x y lb w' (hP w' hb).box (hP w' hb).rules (hP w' hb).cells rfl rfl h.right h.rowGood hlv2 hlb2 hgr h.ne hxy hyl hmask hst
  ·rw [hlv1,hx,hy,hlb1]
   refine (hany w' (hP w' hb).ref).mono ?_
   rintro e w'' ⟨code,rfl,hI⟩
   obtain⟨rfl,hb'⟩:=hI.origin hmk hst
   exact⟨rfl,hb'⟩
 have hfull:∀ w',Below w.heap.size w w'→∀ r,r=decide (8≤(logOf s.c s.acts lb).length)→∀ w'',Below w'.heap.size w' w''→Calls Tryz.prog 65 #[.pointer (some ⟨s.pd,118,none⟩),.int .i64 lb] w'' fun e w3=>e=.returned (.bool r)∧w''=w3:=fun w' hb r hr w'' hb2=>by
  rw [hr]
  exact lgFull_any ((hP w' hb).below hb2).own h.n6 lb hlb2
 by_cases hfu:8≤(logOf s.c s.acts lb).length
 ·refine refuse 13 (fun w' hb=>?_) (fun w' hb=>?_)
  ·rw [hlv1,hx,hy,hlb1]
   exact dcRelease_full s.c s.row s.pd _ _ s.pv.rv s.pv.pv _ _ _ w0.heap.size lv x y lb w' (hP w' hb).box (hP w' hb).rules (hP w' hb).cells rfl rfl h.right h.rowGood hlv2 hlb2 hgr h.ne hxy hyl hmask hst (hfull w' hb true (by simp [hfu]))
  ·rw [hlv1,hx,hy,hlb1]
   refine (hany w' (hP w' hb).ref).mono ?_
   rintro e w'' ⟨code,rfl,hI⟩
   obtain⟨rfl,hb'⟩:=hI.full hmk hst hfu
   exact⟨rfl,hb'⟩
 have hcl:=cells_mask (Nat.le_of_lt hxy) hyl hmask
 refine edited_release s.pd s.rd o (fun w' w'' code=>code=0∧∃ p',PDocO w0.heap.size w'' s.pd s.c (markAll s.row (cellsTo s.c s.row lv (placesR s.c s.row lv) x y) ⟨4,lb,0⟩) (ownC s.row) (updF (logOf s.c s.acts) lb (logOf s.c s.acts lb++[⟨lv,((y-x:Nat):Int),(tellV s.c lb (verOf s.c s.acts) lb:Nat)⟩])) (tellV s.c lb (verOf s.c s.acts)) (tellW s.c 4 lv lb (waitOf s.c s.acts)) p'∧PStep s.c.n s.pd s.pv w' p' w'') (EditOk w0 w s k) w hko (fun w' hb=>?_) (fun w' w'' code hb ⟨hc,p',hpd,hps⟩=>?_)
 ·have hd:=hP w' hb
  rw [hlv1,hx,hy,hlb1]
  refine (dcRelease_ok s.c s.row s.pd _ _ s.pv.rv s.pv.pv _ _ _ w0.heap.size lv x y lb w' hd.box hd.rules hd.cells rfl rfl h.right h.rowGood hlv2 hlb2 hgr h.ne hxy hyl hmask hst (hfull w' hb false (by simp;omega))
   (fun w''=>∃ p',PDocO w0.heap.size w'' s.pd s.c (markAll s.row (cellsTo s.c s.row lv (placesR s.c s.row lv) x y) ⟨4,lb,0⟩) (ownC s.row) (updF (logOf s.c s.acts) lb (logOf s.c s.acts lb++[⟨lv,((y-x:Nat):Int),(tellV s.c lb (verOf s.c s.acts) lb:Nat)⟩])) (tellV s.c lb (verOf s.c s.acts)) (tellW s.c 4 lv lb (waitOf s.c s.acts)) p'∧PStep s.c.n s.pd s.pv w' p' w'') (fun w''=>∃ p',PDocO w0.heap.size w'' s.pd s.c (markAll s.row (cellsTo s.c s.row lv (placesR s.c s.row lv) x y) ⟨4,lb,0⟩) (ownC s.row) (logOf s.c s.acts) (tellV s.c lb (verOf s.c s.acts)) (tellW s.c 4 lv lb (waitOf s.c s.acts)) p'∧PStep s.c.n s.pd s.pv w' p' w'') (fun w''=>∃ p',PDocO w0.heap.size w'' s.pd s.c (markAll s.row (cellsTo s.c s.row lv (placesR s.c s.row lv) x y) ⟨4,lb,0⟩) (ownC s.row) (logOf s.c s.acts) (tellV s.c lb (verOf s.c s.acts)) (tellW s.c 4 lv lb (waitOf s.c s.acts)) p'∧PStep s.c.n s.pd s.pv w' p' w'') ((tellV s.c lb (verOf s.c s.acts) lb:Nat):Int) (fun w1 hown hon=>?_) (fun w1 ⟨p1,h1,h2⟩=>?_) (fun w1 ⟨p1,h1,h2⟩=>?_)).mono ?_
  ·obtain⟨d1,s1⟩:=hd.own.mark hown hon
   refine (nwTell_any d1 h.n6 h.right.labels 4 lv lb hlb2 h.wok (h.vers hk) (Nat.le_trans hd.ref.old.size s1.1.size)).mono ?_
   rintro e w'' ⟨rfl,p',h1,h2⟩
   exact⟨rfl,p',h1,s1.trans h2⟩
  ·refine (nwVersion_any h1 h.n6 lb hlb2).mono ?_
   rintro e w'' ⟨rfl,hb2⟩
   exact⟨rfl,p1,h1.below hb2,h2.trans (PStep.below hb2)⟩
  ·have hxy':(y:Int)-(x:Int)=((y-x:Nat):Int):=by omega
   rw [hxy']
   refine (lgAdd_any h1 h.n6 lb hlb2 lv ((y-x:Nat):Int) _ (by omega) (Nat.le_trans hd.ref.old.size h2.1.size)).mono ?_
   rintro e w'' ⟨rfl,p',h3,h4⟩
   exact⟨rfl,p',h3,h2.trans h4⟩
  ·rintro e w'' ⟨rfl,p',h1,h2⟩
   exact⟨0,rfl,⟨rfl,p',h1,h2⟩,fun j hj1 hj2=>h2.1.block j hj2 (fun ⟨a,ha⟩=>by have:=(h.own.low a j ha).2;omega)⟩
 ·subst hc
  have hd:=hP w' hb
  have hrefk:RDocO w0 w'' s.rd s.c s.v s.rows s.acts s.rrv s.rav:=hd.refAt hps
  rw [hlv1,hx,hy,hlb1]
  refine (hany w'' hrefk).mono ?_
  rintro e w3 ⟨code,rfl,hI⟩
  obtain⟨rfl,rows',av',hr1,hr2,hr3,hr4⟩:=hI.ok hmk hst (by have:¬ 8≤(logTo s.c s.acts lb s.acts.length).length:=hfu;omega)
  rw [hcl] at hr1
  refine⟨rfl,EditOk.both h hb hpd hps hr1 hr3 hr4 hr2 ?_ (fun i _=>log_add i) (fun i _=>tell_ver (by decide)) (fun i _=>tell_wait (by decide)) ?_ ?_ (tellW_ok h.wok (by decide)) (fun i hi=>?_) ?_ ?_⟩
  ·rw [hmm];exact ownC_marked _ _ _
  ·simp only [List.length_append,List.length_singleton];have:=h.acts.1;omega
  ·intro a ha
   simp only [List.mem_append,List.mem_singleton] at ha
   rcases ha with ha|rfl
   ·exact h.acts.2 a ha
   ·exact fun _=>⟨lb,rfl,hlb2⟩
  ·by_cases hil:i=lb
   ·subst hil
    rw [updF_same,List.length_append,List.length_singleton];omega
   ·rw [updF_other _ _ hil];exact h.lok i hi
  ·rw [hmm];exact markIf_ok _ h.good ⟨hlb2,by show 0<s.c.n;omega⟩
  ·rw [hmm];exact markIf_no35 _ h.no35
end Go.Proofs.YtgigkiocdiffjaaGreat
namespace Go.Proofs.YtgigkiocdiffjaaGreat
open Go.RowKit Veil
theorem at_dst (d:Tmp) {P:Program} {ops:Array Oper} {rest:List Oper} {act:Act} {w:World} {Q:Exit→Act→World→Prop} {op:Op} {ty:TypeId} {pos:String} {af:Array Edge} {gd:Option (Nat × Bool)} (h:wpList P ops Q (⟨some d,op,ty,pos,af,gd⟩ :: rest) act w):wpList P ops Q (⟨some d,op,ty,pos,af,gd⟩ :: rest) act w:=h
theorem own_src2 {α:Type} {e:TypeId} {sz:Nat} {f:α→List Value} {w:World} {B:Nat} {ao:Option Addr} {n cap:Nat} {l:List α} (h:OwnL e sz f w B (.slice ao n cap) l):(ao=none→n=0∧cap=0)∧∀ a,ao=some a→∀ j u,(l.flatMap f)[j]?=some u→w.cell? (a.add j)=some u:=by
 refine⟨fun hn=>?_,fun a ha j u hu=>?_⟩
 ·rcases h.2 with⟨h1,_⟩|⟨g,cap',cur,h1,_⟩
  ·simp only [Value.slice.injEq] at h1
   exact⟨h1.2.1,h1.2.2⟩
  ·simp only [Value.slice.injEq] at h1
   rw [hn] at h1;cases h1.1
 ·rcases h.2 with⟨h1,_⟩|⟨g,cap',cur,h1,_⟩
  ·simp only [Value.slice.injEq] at h1
   rw [ha] at h1;cases h1.1
  ·simp only [Value.slice.injEq] at h1
   have hag:a=⟨g,0,none⟩:=by rw [ha] at h1;exact Option.some.inj h1.1
   subst hag
   exact World.ownsRow.cells h (by rw [ha];rfl) j u hu
theorem lgOf_any {B g:Nat} {w:World} {c:Cfg} {row:List RC} {I:Nat→Nat} {L:Nat→List Rec} {V:Nat→Nat} {W:Nat→List No} {p:PV} (hdoc:PDocO B w g c row I L V W p) (hn6:c.n≤6) (lv:Nat) (hlv:lv<c.n) (hlen:(L lv).length≤8) :
  Calls Tryz.prog 70 #[.pointer (some ⟨g,118,none⟩),.int .i64 lv] w fun e w'=>∃ vl,e=.returned vl∧OwnL 97 3 recV w' w.heap.size vl (L lv)∧Below w.heap.size w w':=by
 have HH:=hide (fun (w':World)=>lgHas_any lv w' (by omega))
 have c0:=hdoc.box.log lv (by omega)
 have HO:=hide (hdoc.logs lv hlv)
 obtain⟨ao,cap,hvv⟩:=(hdoc.logs lv hlv).shape
 rw [hvv] at c0 HO
 obtain⟨hs1,hs2⟩:=own_src2 HO.out
 have HS1:=hide hs1
 have HS2:=hide hs2
 have hli:(lv:Int)<6:=by omega
 generalize L lv=l at *
 clear hdoc hlv hvv hs1 hs2
 go_enter Tryz.func70,Tryz.ntmps70
 go_wp2_with fail
 refine (HH.out _).mono ?_
 rintro e w1 ⟨rfl,rfl⟩
 go_wp2_with ((with_reducible (refine at_dst 15 ?_));(refine wpList_pushes rfl (.tmp 8) (.tmp 14) 75 rfl (.agg #[.int .i64 0,.int .i64 0,.int .i64 0]) 24 Tryz.underlying75 Tryz.infoRecord2 rfl (by decide) rfl (OwnL.nil 97 3 recV w w.heap.size) ao l.length cap l rfl rfl HS1.out HS2.out recV_len (fun a _ u hu=>by simp [recV] at hu;rcases hu with rfl|rfl|rfl <;> rfl) (by simp;omega) (by decide) (Nat.le_refl _) ?_);intro v4 w4 hown4 hgrow4 hat4)
 have hb4:Below w.heap.size w w4:=below_of_grown hgrow4 (fun k hk=>by cases hk) (Nat.le_refl _)
 have HO4:=hide (show OwnL 97 3 recV w4 w.heap.size v4 l by simpa using hown4)
 obtain⟨ao4,cap4,hv4⟩:=HO4.out.shape
 subst hv4
 clear hown4 hgrow4 hat4
 go_wp2
 go_ret
 exact⟨_,rfl,HO4.out,hb4⟩
theorem nwPoll_any {B g:Nat} {w:World} {c:Cfg} {row:List RC} {I:Nat→Nat} {L:Nat→List Rec} {V:Nat→Nat} {W:Nat→List No} {p:PV} (hdoc:PDocO B w g c row I L V W p) (hn6:c.n≤6) (lv:Nat) (hlv:lv<c.n) (hlen:(W lv).length≤4) :
  Calls Tryz.prog 71 #[.pointer (some ⟨g,124,none⟩),.int .i64 lv] w fun e w'=>∃ vl p',e=.returned vl∧OwnL 100 2 noV w' w.heap.size vl (W lv)∧PDocO B w' g c row I L V (updF W lv []) p'∧PStep c.n g p w p' w'∧∀ a b,pblk c.n g p' a=some b→vl.ownBlock=some b→False:=by
 have i0:=hdoc.box.isN
 have a0:=hdoc.box.atN
 have HQ:=hide (has_any c.n (tT c) lv w)
 rw [okL_lt hlv] at HQ
 have HD:=hide hdoc
 obtain⟨ao,cap,hvv⟩:=(hdoc.waits lv hlv).shape
 have HVV:=hide hvv
 have hli:(lv:Int)<6:=by omega
 have hl6:lv<6:=by omega
 have HLV:=hide hlv
 have hgl:=hdoc.box.lt
 clear hdoc hlv hvv
 go_enter Tryz.func71,Tryz.ntmps71
 go_wp2_with fail
 refine (HQ.out).mono ?_
 rintro e w1 ⟨rfl,hb1⟩
 have HD1:=hide (HD.out.below hb1)
 have c1:=HD1.out.box.wait lv hl6
 have HO:=hide (HD1.out.waits lv HLV.out)
 rw [HVV.out] at c1 HO
 obtain⟨hs1,hs2⟩:=own_src2 HO.out
 have HS1:=hide hs1
 have HS2:=hide hs2
 have fz:=HD1.out.box.frozen (167+lv)
 have hg1:=HD1.out.box.lt
 generalize hWl:W lv=l at *
 have HWL:=hide hWl
 clear i0 a0 hs1 hs2 hWl
 go_wp2_with ((with_reducible (refine at_dst 20 ?_));(refine wpList_pushes rfl (.tmp 13) (.tmp 19) 79 rfl (.agg #[.int .i64 0,.int .i64 0]) 16 Tryz.underlying79 Tryz.infoNotice rfl (by decide) rfl (OwnL.nil 100 2 noV w1 w1.heap.size) ao l.length cap l rfl rfl HS1.out HS2.out noV_len (fun a _ u hu=>by simp [noV] at hu;rcases hu with rfl|rfl <;> rfl) (by simp;omega) (by decide) (Nat.le_refl _) ?_);intro v4 w4 hown4 hgrow4 hat4;have hb4:Below w1.heap.size w1 w4:=below_of_grown hgrow4 (fun k hk=>by cases hk) (Nat.le_refl _);have c4:=(hb4.cell (p:=⟨g,167+lv,none⟩) hg1).trans c1;have fz4:=(HD1.out.below hb4).box.frozen (167+lv))
 have HO4:=hide (show OwnL 100 2 noV w4 w1.heap.size v4 l by simpa using hown4)
 have HD4:=hide (HD1.out.below hb4)
 obtain⟨ao4,cap4,hv4⟩:=HO4.out.shape
 subst hv4
 obtain⟨n1,n2⟩:=HD4.out.setWait hn6 HLV.out (v1:=.slice none 0 0) (x:=[]) (w1:=w4) (OwnL.nil _ _ _ _ _) (Only.refl _ _) (fun b hb=>by cases hb)
 have HN1:=hide n1
 have hs1:=hb1.size
 have HN2:=hide ((PStep.below (n:=c.n) (g:=g) (p:=p) (hb1.trans (hb4.mono hb1.size))).trans n2)
 have hvg:∀ b,(Value.slice ao4 l.length cap4).ownBlock=some b→b≠g:=fun b hb=>by have:=(HO4.out.lt hb).1;omega
 have HO5:=hide (HO4.out.setOther (g:=g) (i:=167+lv) (u:=.slice none 0 0) hvg)
 have HAP:=hide (show ∀ a b,pblk c.n g ⟨p.rv,p.pv,⟨p.nw.lg,p.nw.vs,updF p.nw.wt lv (.slice none 0 0)⟩⟩ a=some b→(Value.slice ao4 l.length cap4).ownBlock=some b→False from fun a b ha hb=>by
  have h1:=(HO4.out.lt hb).1
  rcases n2.2 a b ha with⟨x,hx⟩|hx
  ·have:=(HD1.out.low x b hx).2;omega
  ·have:=(HO4.out.lt hb).2;omega)
 clear hown4 hgrow4 hat4 n1 n2
 go_wp2
 go_ret
 exact⟨_,_,rfl,by rw [HWL.out];exact HO5.out.mono hs1,HN1.out,HN2.out,HAP.out⟩
theorem dcLog_no (g n:Nat) (f:Nat→Nat→Bool) (rv pv:Value) (GR:Nat→Nat→Bool) (I:Nat→Nat) (Lg:NW) (level:Int) (w:World) (hbox:PBox w g n f rv GR pv I Lg) (hlv:okL n level=false) :
  Calls Tryz.prog 32 #[.pointer (some ⟨g,0,none⟩),.int .i64 level] w fun e w'=>e=.returned (.tuple #[.slice none 0 0,.int .i64 6])∧Below w.heap.size w w':=by
 have i0:=hbox.is
 have a0:=hbox.at
 have r0:=hbox.not
 have HQ:=hide (has_any n f level w)
 rw [hlv] at HQ
 clear hlv hbox
 go_enter Tryz.func32,Tryz.ntmps32
 go_wp2_with fail
 refine (HQ.out).mono ?_
 rintro e w1 ⟨rfl,hb1⟩
 clear i0 a0 r0
 go_wp2
 go_ret2
 exact⟨rfl,hb1⟩
theorem dcVersion_no (g n:Nat) (f:Nat→Nat→Bool) (rv pv:Value) (GR:Nat→Nat→Bool) (I:Nat→Nat) (Lg:NW) (level:Int) (w:World) (hbox:PBox w g n f rv GR pv I Lg) (hlv:okL n level=false) :
  Calls Tryz.prog 31 #[.pointer (some ⟨g,0,none⟩),.int .i64 level] w fun e w'=>e=.returned (.tuple #[.int .i64 0,.int .i64 6])∧Below w.heap.size w w':=by
 have i0:=hbox.is
 have a0:=hbox.at
 have r0:=hbox.not
 have HQ:=hide (has_any n f level w)
 rw [hlv] at HQ
 clear hlv hbox
 go_enter Tryz.func31,Tryz.ntmps31
 go_wp2_with fail
 refine (HQ.out).mono ?_
 rintro e w1 ⟨rfl,hb1⟩
 clear i0 a0 r0
 go_wp2
 go_ret2
 exact⟨rfl,hb1⟩
theorem dcPoll_no (g n:Nat) (f:Nat→Nat→Bool) (rv pv:Value) (GR:Nat→Nat→Bool) (I:Nat→Nat) (Lg:NW) (level:Int) (w:World) (hbox:PBox w g n f rv GR pv I Lg) (hlv:okL n level=false) :
  Calls Tryz.prog 34 #[.pointer (some ⟨g,0,none⟩),.int .i64 level] w fun e w'=>e=.returned (.tuple #[.slice none 0 0,.int .i64 6])∧Below w.heap.size w w':=by
 have i0:=hbox.is
 have a0:=hbox.at
 have r0:=hbox.not
 have HQ:=hide (has_any n f level w)
 rw [hlv] at HQ
 clear hlv hbox
 go_enter Tryz.func34,Tryz.ntmps34
 go_wp2_with fail
 refine (HQ.out).mono ?_
 rintro e w1 ⟨rfl,hb1⟩
 clear i0 a0 r0
 go_wp2
 go_ret2
 exact⟨rfl,hb1⟩
theorem dcLog_ok {B g:Nat} {w:World} {c:Cfg} {row:List RC} {I:Nat→Nat} {L:Nat→List Rec} {V:Nat→Nat} {W:Nat→List No} {p:PV} (hdoc:PDocO B w g c row I L V W p) (hn6:c.n≤6) (lv:Nat) (hlv:lv<c.n) (hlen:(L lv).length≤8) :
  Calls Tryz.prog 32 #[.pointer (some ⟨g,0,none⟩),.int .i64 lv] w fun e w'=>∃ vl,e=.returned (.tuple #[vl,.int .i64 0])∧OwnL 97 3 recV w' w.heap.size vl (L lv)∧Below w.heap.size w w':=by
 have HC:=hide (fun (w':World) (hb:Below w.heap.size w w')=>lgOf_any (hdoc.below hb) hn6 lv hlv hlen)
 have i0:=hdoc.box.is
 have a0:=hdoc.box.at
 have r0:=hdoc.box.not
 have HQ:=hide (has_any c.n (tT c) lv w)
 rw [okL_lt hlv] at HQ
 clear hlv hdoc
 go_enter Tryz.func32,Tryz.ntmps32
 go_wp2_with fail
 refine (HQ.out).mono ?_
 rintro e w1 ⟨rfl,hb1⟩
 clear i0 a0 r0
 go_wp2_with fail
 refine (HC.out _ hb1).mono ?_
 rintro e w2 ⟨vl,rfl,hvl,hb2⟩
 obtain⟨ao,cap,hvv⟩:=hvl.shape
 subst hvv
 have HVL:=hide (hvl.mono hb1.size)
 have hb3:=hb1.trans (hb2.mono hb1.size)
 clear hvl hb1 hb2
 go_wp2
 go_ret2
 exact⟨_,rfl,HVL.out,hb3⟩
theorem dcVersion_ok {B g:Nat} {w:World} {c:Cfg} {row:List RC} {I:Nat→Nat} {L:Nat→List Rec} {V:Nat→Nat} {W:Nat→List No} {p:PV} (hdoc:PDocO B w g c row I L V W p) (hn6:c.n≤6) (lv:Nat) (hlv:lv<c.n) :
  Calls Tryz.prog 31 #[.pointer (some ⟨g,0,none⟩),.int .i64 lv] w fun e w'=>e=.returned (.tuple #[.int .i64 (V lv),.int .i64 0])∧Below w.heap.size w w':=by
 have HC:=hide (fun (w':World) (hb:Below w.heap.size w w')=>nwVersion_any (hdoc.below hb) hn6 lv hlv)
 have i0:=hdoc.box.is
 have a0:=hdoc.box.at
 have r0:=hdoc.box.not
 have HQ:=hide (has_any c.n (tT c) lv w)
 rw [okL_lt hlv] at HQ
 clear hlv hdoc
 go_enter Tryz.func31,Tryz.ntmps31
 go_wp2_with fail
 refine (HQ.out).mono ?_
 rintro e w1 ⟨rfl,hb1⟩
 clear i0 a0 r0
 go_wp2_with fail
 refine (HC.out _ hb1).mono ?_
 rintro e w2 ⟨rfl,hb2⟩
 have hb3:=hb1.trans (hb2.mono hb1.size)
 clear hb1 hb2
 go_wp2
 go_ret2
 exact⟨rfl,hb3⟩
theorem dcPoll_ok {B g:Nat} {w:World} {c:Cfg} {row:List RC} {I:Nat→Nat} {L:Nat→List Rec} {V:Nat→Nat} {W:Nat→List No} {p:PV} (hdoc:PDocO B w g c row I L V W p) (hn6:c.n≤6) (lv:Nat) (hlv:lv<c.n) (hlen:(W lv).length≤4) :
  Calls Tryz.prog 34 #[.pointer (some ⟨g,0,none⟩),.int .i64 lv] w fun e w'=>∃ vl p',e=.returned (.tuple #[vl,.int .i64 0])∧OwnL 100 2 noV w' w.heap.size vl (W lv)∧PDocO B w' g c row I L V (updF W lv []) p'∧PStep c.n g p w p' w'∧∀ a b,pblk c.n g p' a=some b→vl.ownBlock=some b→False:=by
 have HC:=hide (fun (w':World) (hb:Below w.heap.size w w')=>nwPoll_any (hdoc.below hb) hn6 lv hlv hlen)
 have i0:=hdoc.box.is
 have a0:=hdoc.box.at
 have r0:=hdoc.box.not
 have HQ:=hide (has_any c.n (tT c) lv w)
 rw [okL_lt hlv] at HQ
 clear hlv hdoc
 go_enter Tryz.func34,Tryz.ntmps34
 go_wp2_with fail
 refine (HQ.out).mono ?_
 rintro e w1 ⟨rfl,hb1⟩
 clear i0 a0 r0
 go_wp2_with fail
 refine (HC.out _ hb1).mono ?_
 rintro e w2 ⟨vl,p',rfl,hvl,hpd,hps,hap⟩
 obtain⟨ao,cap,hvv⟩:=hvl.shape
 subst hvv
 have HVL:=hide (hvl.mono hb1.size)
 have HPD:=hide hpd
 have HPS:=hide ((PStep.below (n:=c.n) (g:=g) (p:=p) hb1).trans hps)
 have HAP:=hide hap
 clear hvl hpd hps hap
 go_wp2
 go_ret2
 exact⟨_,_,rfl,HVL.out,HPD.out,HPS.out,HAP.out⟩
end Go.Proofs.YtgigkiocdiffjaaGreat
namespace Go.Proofs.YtgigkiocdiffjaaGreat
open Go.RowKit Veil
def lentF (g1 g2 g3 k:Nat):Prop:=k=g1∨k=g2∨k=g3
theorem spoil_only (c:Cfg) (v:CfgV) (g1 g2 g3:Nat) (w:World) (hok:CfgOk c) (hn:CfgNil c v) (hl:LentAt w c g1 g2 g3) (h12:g1<g2) (h23:g2<g3) :
  Calls Tryz.prog 82 #[.agg (cfgCells c (lentV c v g1 g2 g3))] w fun e w'=>e=.returned (.tuple #[])∧Only (lentF g1 g2 g3) w w':=by
 have l1:=hl.edges.lt
 have l2:=hl.rules.lt
 have l3:=hl.grants.lt
 have k1:=hok.edges
 have k2:=hok.rules
 have k3:=hok.grants
 have hm0:∀ o,o=Obj.cells (cfgCells c (lentV c v g1 g2 g3)) 31→SpoilMid (w.alloc o) w.heap.size c v g1 g2 g3:=fun o ho=>by
  subst ho
  exact⟨Go.heap_alloc_new _ _,⟨_,by simp [pad_length],row_alloc' hl.edges⟩,⟨_,by simp [pad_length],row_alloc' hl.rules⟩,⟨_,by simp [pad_length],row_alloc' hl.grants⟩⟩
 have HM:=hide hm0
 have HN:=hide hn
 clear hm0 hn hl hok
 have e1:0<c.edges.length→(lentV c v g1 g2 g3).ea=some ⟨g1,0,none⟩:=fun h=>by
  cases hv:v.ea with
  | none=>have:=(HN.out.edges hv).1;omega
  | some a=>simp [lentV,hv]
 have e2:0<c.rules.length→(lentV c v g1 g2 g3).ra=some ⟨g2,0,none⟩:=fun h=>by
  cases hv:v.ra with
  | none=>have:=(HN.out.rules hv).1;omega
  | some a=>simp [lentV,hv]
 have e3:0<c.grants.length→(lentV c v g1 g2 g3).ga=some ⟨g3,0,none⟩:=fun h=>by
  cases hv:v.ga with
  | none=>have:=(HN.out.grants hv).1;omega
  | some a=>simp [lentV,hv]
 have E1:=hide e1
 have E2:=hide e2
 have E3:=hide e3
 clear e1 e2 e3
 generalize hV:lentV c v g1 g2 g3=V at *
 have HV:=hide hV
 clear hV
 obtain⟨L,E,R,G⟩:=c
 obtain⟨ea,ec,ra,rc,ga,gc⟩:=V
 simp only at k1 k2 k3
 unfold cfgCells
 go_enter Tryz.func82,Tryz.ntmps82
 go_wp2
 go_loopw [2] (fun i wr=>∃ k:Nat,k≤E.length∧i=.int .i64 k∧SpoilMid wr w.heap.size ⟨L,E,R,G⟩ v g1 g2 g3∧Only (lentF g1 g2 g3) w wr) (fun i _=>E.length-(intOf i).toNat)
 case atStart=>exact⟨0,Nat.zero_le _,rfl,HM.out _ rfl,Only.of_below (below_box w _)⟩
 case round=>
  obtain⟨k,hk,rfl,hm,hbel⟩:=hrel
  have HK:=hide hm
  by_cases hlt:k<E.length
  ·obtain⟨l,hlen,hrow⟩:=hm.edges
   have hlen':k<l.length:=by rw [hlen];dsimp only;omega
   obtain⟨p1,p2⟩:=hrow.cell (List.getElem?_eq_getElem hlen')
   have f1:=hrow.frozen (k*2)
   have f2:=hrow.frozen (k*2+1)
   have c1:wr.cell? ⟨w.heap.size,1,none⟩=some (.slice (some ⟨g1,0,none⟩) E.length ec):=by
    have:=hm.cfg
    rw [HV.out] at this
    rw [cell_of_row _ _ _ _ _ _ this]
    have e:=E1.out (by omega)
    simp [cfgCells,e]
   generalize l[k]=q at *
   clear hm hrow hlen hlen'
   go_wp2
   go_roundw
   case rel=>exact⟨k+1,by omega,by go_num,HK.out.stepE (0,0) (by dsimp only;omega) h12 h23 l3,(hbel.setCell (by unfold lentF;simp)).setCell (by unfold lentF;simp)⟩
   case measure=>simp [intOf];omega
  ·have c1:wr.cell? ⟨w.heap.size,1,none⟩=some (.slice ea E.length ec):=by
    have:=hm.cfg
    rw [HV.out] at this
    rw [cell_of_row _ _ _ _ _ _ this];rfl
   clear hm
   go_wp2
   go_loopw [3] (fun i wr=>∃ k:Nat,k≤R.length∧i=.int .i64 k∧SpoilMid wr w.heap.size ⟨L,E,R,G⟩ v g1 g2 g3∧Only (lentF g1 g2 g3) w wr) (fun i _=>R.length-(intOf i).toNat)
   case atStart=>exact⟨0,Nat.zero_le _,rfl,HK.out,hbel⟩
   case round=>
    obtain⟨k,hk,rfl,hm,hbel⟩:=hrel
    have HK:=hide hm
    by_cases hlt:k<R.length
    ·obtain⟨l,hlen,hrow⟩:=hm.rules
     have hlen':k<l.length:=by rw [hlen];dsimp only;omega
     obtain⟨p1,p2⟩:=hrow.cell (List.getElem?_eq_getElem hlen')
     have f1:=hrow.frozen (k*2)
     have f2:=hrow.frozen (k*2+1)
     have c1:wr.cell? ⟨w.heap.size,2,none⟩=some (.slice (some ⟨g2,0,none⟩) R.length rc):=by
      have:=hm.cfg
      rw [HV.out] at this
      rw [cell_of_row _ _ _ _ _ _ this]
      have e:=E2.out (by omega)
      simp [cfgCells,e]
     generalize l[k]=q at *
     clear hm hrow hlen hlen'
     go_wp2
     go_roundw
     case rel=>exact⟨k+1,by omega,by go_num,HK.out.stepR (⟨#[42]⟩,0) (by dsimp only;omega) h12 h23 l3,(hbel.setCell (by unfold lentF;simp)).setCell (by unfold lentF;simp)⟩
     case measure=>simp [intOf];omega
    ·have c1:wr.cell? ⟨w.heap.size,2,none⟩=some (.slice ra R.length rc):=by
      have:=hm.cfg
      rw [HV.out] at this
      rw [cell_of_row _ _ _ _ _ _ this];rfl
     clear hm
     go_wp2
     go_loopw [4] (fun i wr=>∃ k:Nat,k≤G.length∧i=.int .i64 k∧SpoilMid wr w.heap.size ⟨L,E,R,G⟩ v g1 g2 g3∧Only (lentF g1 g2 g3) w wr) (fun i _=>G.length-(intOf i).toNat)
     case atStart=>exact⟨0,Nat.zero_le _,rfl,HK.out,hbel⟩
     case round=>
      obtain⟨k,hk,rfl,hm,hbel⟩:=hrel
      have HK:=hide hm
      by_cases hlt:k<G.length
      ·obtain⟨l,hlen,hrow⟩:=hm.grants
       have hlen':k<l.length:=by rw [hlen];dsimp only;omega
       obtain⟨p1,p2⟩:=hrow.cell (List.getElem?_eq_getElem hlen')
       have f1:=hrow.frozen (k*2)
       have f2:=hrow.frozen (k*2+1)
       have c1:wr.cell? ⟨w.heap.size,3,none⟩=some (.slice (some ⟨g3,0,none⟩) G.length gc):=by
        have:=hm.cfg
        rw [HV.out] at this
        rw [cell_of_row _ _ _ _ _ _ this]
        have e:=E3.out (by omega)
        simp [cfgCells,e]
       generalize l[k]=q at *
       clear hm hrow hlen hlen'
       go_wp2
       go_roundw
       case rel=>exact⟨k+1,by omega,by go_num,HK.out.stepG (0,0) (by dsimp only;omega) h12 h23 l3,(hbel.setCell (by unfold lentF;simp)).setCell (by unfold lentF;simp)⟩
       case measure=>simp [intOf];omega
      ·have c1:wr.cell? ⟨w.heap.size,3,none⟩=some (.slice ga G.length gc):=by
        have:=hm.cfg
        rw [HV.out] at this
        rw [cell_of_row _ _ _ _ _ _ this];rfl
       clear hm
       go_wp2
       go_end0
       exact⟨rfl,hbel⟩
end Go.Proofs.YtgigkiocdiffjaaGreat
