import Derived.Test.YtgigkiocdiffjabU20
import Derived.Test.YtgigkiocdiffjabU09
set_option maxRecDepth 100000
set_option maxHeartbeats 16000000
namespace Go.Proofs.Ytgigkiocdiffjab
open Go.RowKit Veil
theorem Only.setCells {F:Nat→Prop} {w w':World} {g o:Nat} {vs:List Value} (h:Only F w w') (hF:F g):Only F w (w'.setCells g o vs):=
 ⟨(os_setCells g vs o w').1.trans h.os,(os_setCells g vs o w').2.1.trans h.tape,(os_setCells g vs o w').2.2.trans h.output,by rw [size_setCells];exact h.size,fun k hk hn=>(heap_setCells_other g k (fun e=>hn (e ▸ hF)) vs o w').trans (h.block k hk hn)⟩
theorem PRowAt.others {w:World} {g q n:Nat} {f:Nat→Nat→Bool} {pv:Value} {g' o:Nat} {vs:List Value} (h:PRowAt w g q n f pv) (hne:g≠g'):PRowAt (w.setCells g' o vs) g q n f pv:=by
 obtain⟨cs,t,h1,h2⟩:=h
 exact⟨cs,t,(heap_setCells_other _ _ hne _ _ _).trans h1,h2⟩
theorem rwDelete_any (c:Cfg) (row:List RC) (g q n:Nat) (f:Nat→Nat→Bool) (pv:Value) (B lv first last:Nat) (w:World) (hown:OwnL 140 20 (pcV c) w B pv row) (hr:PRowAt w g q n f pv) (hne:∀ b,pv.ownBlock=some b→g≠b) (hn:n=c.n) (hf:f=tT c) (hl:labelsB c=true) (hcl:∀ x,x ∈ row→RCOk c x) (hlv:lv<c.n) (hq:0<q) (hlen:row.length≤1000000) :
  Calls Try.prog 43 #[.pointer (some ⟨g,q,none⟩),.int .i64 lv,.int .i64 first,.int .i64 last] w fun e w'=>e=.returned (.tuple #[])∧OwnL 140 20 (pcV c) w' B pv (markIf (meantB c row lv first last) ⟨2,lv,0⟩ row row.length)∧Only (fun k=>pv.ownBlock=some k) w w':=by
 obtain⟨_,_,_,_,_,hn6,_⟩:=labels_of hl
 have hn6':n≤6:=by omega
 have HMP:=hide (fun (x:RC) (k:Nat) (hx:RCOk c x) (hk:row[k]?=some x)=>show meantP n f x.origin (goneD c x) lv first last k=meantB c row lv first last k by
  subst hn;subst hf
  unfold meantP meantB thR
  rw [thereP_there hl x hx lv]
  have:cellAt row k=x:=by simp [cellAt,List.getD,hk]
  rw [this])
 have HNEW:=hide (fun (x:RC) (hx:RCOk c x)=>show cellG x.b x.origin (upK (leD n f lv) true (goneD c x) 6) (labD c x) (freeD c x)=pcV c (marked ⟨2,lv,0⟩ x) by
  subst hn;subst hf
  exact pcV_deleted hl x lv 0 hlv)
 have HMT:=hide (fun (x:RC) (rb m cap i:Nat) (w':World) (h:PRowAt w' g q n f (.slice (some ⟨rb,0,none⟩) m cap)) (hi:i<m) (hp:partIs w' rb (i*20) 20) (ha:partAt w' rb (i*20) 20=(pcV c x).toArray)=>isMeant_any x.b x.origin (goneD c x) (labD c x) (freeD c x) g q n f rb m cap i lv first last w' h hn6' hq hi hp ha)
 have HCA:=hide (fun (x:RC) (pv:Value) (w':World) (h:PRowAt w' g q n f pv)=>deleted_any x.b x.origin (goneD c x) (labD c x) (freeD c x) g q n f pv lv w' h hn6' hq)
 have HOWN:=hide hown
 have HROW:=hide hr
 have HCO:=hide hcl
 have hgl:=hr.lt
 have HNE:=hide hne
 generalize hpp:meantB c row lv first last=p at *
 clear hpp hr hl hcl hn hf hn6 hne hlv
 obtain⟨ao,cap,hpv⟩:=hown.shape
 subst hpv
 clear hown
 go_enter Try.func43,Try.ntmps43
 go_wp2
 go_loopw [8] (fun i wr=>∃ k:Nat,k≤row.length∧i=.int .i64 k∧OwnL 140 20 (pcV c) wr B (.slice ao row.length cap) (markIf p ⟨2,lv,0⟩ row k)∧PRowAt wr g q n f (.slice ao row.length cap)∧Only (fun k=>(Value.slice ao row.length cap).ownBlock=some k) w wr) (fun i _=>row.length-(intOf i).toNat)
 case atStart=>exact⟨0,Nat.zero_le _,rfl,by rw [markIf_zero];exact HOWN.out,HROW.out,Only.refl _ _⟩
 case round=>
  obtain⟨wo,rfl⟩:∃ x,x=wr:=⟨_,rfl⟩
  obtain⟨k,hk,rfl,hov,hrv,honly⟩:=hrel
  have HOV:=hide hov
  have HRV:=hide hrv
  have HON:=hide honly
  have d0:=hrv.cells
  clear hov hrv honly
  by_cases hlt:k<row.length
  ·have hki:(k:Int)<(row.length:Int):=by omega
   have hml:=markIf_length p ⟨2,lv,0⟩ row k
   obtain⟨rb,cp,hvv,_,hrbl⟩:=HOV.out.form (by omega)
   simp only [Value.slice.injEq] at hvv
   obtain⟨rfl,hxx,rfl⟩:=hvv
   clear hxx
   have HML:=hide hml
   have hej:row[k]?=some row[k]:=List.getElem?_eq_getElem hlt
   have HXK:=hide (markIf_at (p:=p) (m:=⟨2,lv,0⟩) hej)
   have HYES:=hide (fun h=>markIf_yes (p:=p) (m:=⟨2,lv,0⟩) h hej)
   have HNO:=hide (fun h=>markIf_no (p:=p) (m:=⟨2,lv,0⟩) (row:=row) (k:=k) h)
   obtain⟨p0,q0⟩:=HOV.out.part (pcV_length c) (g:=rb) rfl HXK.out
   have hx:=HCO.out _ (List.getElem_mem hlt)
   have HPK:=hide (HMP.out row[k] k hx hej)
   have HM1:=hide (HMT.out row[k] rb row.length cap k wo HRV.out hlt p0 q0)
   have HEQ:=hide (HNEW.out row[k] hx)
   have HCX:=hide (fun pv w' h=>HCA.out row[k] pv w' h)
   have HWK:=hide (show ∀ l:List RC,l.length=row.length→k<l.length from fun l hl=>by omega)
   have hkm:k<(markIf p ⟨2,lv,0⟩ row k).length:=by omega
   have hgne:g≠rb:=HNE.out rb rfl
   have hgo:=HRV.out.lt
   clear hml
   generalize row[k]=x at *
   rw [HPK.out] at HM1
   clear hej hx
   go_wp2_with fail
   refine (HM1.out).mono ?_
   rintro e w3 ⟨rfl,hb3⟩
   have HO3:=hide (HOV.out.below hb3)
   have HR3:=hide (HRV.out.below hb3 hgo)
   have HON3:=hide (HON.out.trans (Only.of_below (F:=fun _=>False) hb3) (fun k h=>h.elim))
   have hl3:=HR3.out.lt
   have d1:=HR3.out.cells
   clear d0 p0 q0 hb3
   cases hpk:p k
   ·have HN1:=hide (HNO.out hpk)
    go_wp2
    go_roundw
    case rel=>exact⟨k+1,by omega,by go_num,by rw [HN1.out];exact HO3.out,HR3.out,HON3.out⟩
    case measure=>simp [intOf];omega
   ·have HY1:=hide (HYES.out hpk)
    obtain⟨p3,q3⟩:=HO3.out.part (pcV_length c) (g:=rb) rfl HXK.out
    have HCL:=hide (HCX.out _ w3.drew HR3.out)
    rw [HEQ.out] at HCL
    have k5:=cellG_ok x.b x.origin (goneD c (marked ⟨2,lv,0⟩ x)) (labD c (marked ⟨2,lv,0⟩ x)) (freeD c (marked ⟨2,lv,0⟩ x))
    have k5:okRow (pcV c (marked ⟨2,lv,0⟩ x)).toArray 20:=k5
    have HCC:=hide (show (cellG x.b x.origin (goneD c x) (labD c x) (freeD c x)).toArray=(pcV c x).toArray from rfl)
    rw [HCC.out] at HCL
    generalize hy:marked ⟨2,lv,0⟩ x=y at *
    clear hpk hy
    go_wp2_with fail
    refine wp_region_held_drew (S:=(fun w'=>w'.cell? ⟨g,q+37,none⟩=some (.slice (some ⟨rb,0,none⟩) row.length cap))) (by kernel_rfl) ?_ (fun hHeld=>?_)
    ·exact d1
    refine tV 0 24 ?_
    (try simp only [Act.put,lA,lZ,lS])
    refine tV 1 25 ?_
    (try simp only [Act.put,lA,lZ,lS])
    refine tV 2 26 ?_
    (try simp only [Act.put,lA,lZ,lS])
    refine tV 3 27 ?_
    (try simp only [Act.put,lA,lZ,lS])
    refine tV 4 28 ?_
    (try simp only [Act.put,lA,lZ,lS])
    refine tV 5 29 ?_
    (try simp only [Act.put,lA,lZ,lS])
    refine tV 6 30 ?_
    (try simp only [Act.put,lA,lZ,lS])
    refine tV 7 31 ?_
    (try simp only [Act.put,lA,lZ,lS])
    refine tV 8 32 ?_
    (try simp only [Act.put,lA,lZ,lS])
    refine tV 9 33 ?_
    (try simp only [Act.put,lA,lZ,lS])
    refine tV 10 34 ?_
    (try simp only [Act.put,lA,lZ,lS])
    refine tV 11 35 ?_
    (try simp only [Act.put,lA,lZ,lS])
    refine tV 13 37 ?_
    (try simp only [Act.put,lA,lZ,lS])
    refine wpAnyH_ready (rs:=[12]) (by kernel_rfl) (by simp) ?_
    refine AllReadyH.cons rfl (fun K hK=>?_) AllReadyH.nil
    go_simp
    refine hK.out _ _ ?_ (fun hHeld=>?_)
    ·exact d1
    clear hK K
    refine wpAnyH_ready (rs:=[14]) (by kernel_rfl) (by simp) ?_
    refine AllReadyH.cons rfl (fun K hK=>?_) AllReadyH.nil
    go_simp
    go_wp2_with (go_at_call 70;refine (HCL.out).mono ?_;rintro e w5 ⟨rfl,hb5⟩;have HR5:=hide (PRowAt.below (w:=w3.drew) HR3.out hb5 hl3);have d5:=HR5.out.cells;have HO5:=hide (OwnL.below (w:=w3.drew) HO3.out hb5);have p5:=(HO5.out.part (pcV_length c) rfl HXK.out).1;have HO6:=hide (HO5.out.put (pcV_length c) rfl hkm y);have HR6:=hide (HR5.out.others (o:=k*20) (vs:=pcV c y) hgne);have d6:=HR6.out.cells)
    refine hK.out _ _ ?_ (fun hHeld=>?_)
    ·exact d5
    clear hK K
    refine tV 15 39 ?_
    (try simp only [Act.put,lA,lZ,lS])
    refine wpAnyH_ready (rs:=[16]) (by kernel_rfl) (by simp) ?_
    refine AllReadyH.cons rfl (fun K hK=>?_) AllReadyH.nil
    go_simp
    refine hK.out _ _ ?_ (fun hHeld=>?_)
    ·exact d6
    clear hK K
    refine wpAnyH_done (by kernel_rfl) ?_ _
    have HON6:=hide ((HON3.out.trans (Only.of_below (F:=fun _=>False) (below_drew w3)) (fun k h=>h.elim)).trans (Only.of_below (F:=fun _=>False) (w:=w3.drew) hb5) (fun k h=>h.elim))
    have HON7:=hide (HON6.out.setCells (g:=rb) (o:=k*20) (vs:=pcV c y) rfl)
    clear d1 d5 d6 p5 p3 q3 k5
    go_wp2
    go_roundw
    case rel=>exact⟨k+1,by omega,by go_num,by rw [HY1.out];exact HO6.out,HR6.out,HON7.out⟩
    case measure=>simp [intOf];omega
  ·obtain rfl:k=row.length:=by omega
   have hkc:decide ((row.length:Int)<(row.length:Int))=false:=by simp
   go_wp2
   go_end0
   exact⟨rfl,HOV.out,HON.out⟩
theorem rwRaise_any (c:Cfg) (row:List RC) (g q n:Nat) (f:Nat→Nat→Bool) (pv:Value) (B lv lb first last:Nat) (w:World) (hown:OwnL 140 20 (pcV c) w B pv row) (hr:PRowAt w g q n f pv) (hne:∀ b,pv.ownBlock=some b→g≠b) (hn:n=c.n) (hf:f=tT c) (hl:labelsB c=true) (hcl:∀ x,x ∈ row→RCOk c x) (hlat:¬ c.noLat) (hlv:lv<c.n) (hlb:lb<c.n) (hq:0<q) (hlen:row.length≤1000000) :
  Calls Try.prog 51 #[.pointer (some ⟨g,q,none⟩),.int .i64 lv,.int .i64 first,.int .i64 last,.int .i64 lb] w fun e w'=>e=.returned (.tuple #[])∧OwnL 140 20 (pcV c) w' B pv (markIf (meantB c row lv first last) ⟨3,lv,lb⟩ row row.length)∧Only (fun k=>pv.ownBlock=some k) w w':=by
 obtain⟨_,_,_,_,_,hn6,_⟩:=labels_of hl
 have hn6':n≤6:=by omega
 have HMP:=hide (fun (x:RC) (k:Nat) (hx:RCOk c x) (hk:row[k]?=some x)=>show meantP n f x.origin (goneD c x) lv first last k=meantB c row lv first last k by
  subst hn;subst hf
  unfold meantP meantB thR
  rw [thereP_there hl x hx lv]
  have:cellAt row k=x:=by simp [cellAt,List.getD,hk]
  rw [this])
 have HNEW:=hide (fun (x:RC) (hx:RCOk c x)=>show cellG x.b x.origin (goneD c x) (upL (leD n f lv) (fun d=>joinN n f lb (labD c x d)) (labD c x) 6) (upK (leD n f lv) false (freeD c x) 6)=pcV c (marked ⟨3,lv,lb⟩ x) by
  subst hn;subst hf
  exact pcV_raised hl hlat x hx lv lb hlv hlb)
 have HMT:=hide (fun (x:RC) (rb m cap i:Nat) (w':World) (h:PRowAt w' g q n f (.slice (some ⟨rb,0,none⟩) m cap)) (hi:i<m) (hp:partIs w' rb (i*20) 20) (ha:partAt w' rb (i*20) 20=(pcV c x).toArray)=>isMeant_any x.b x.origin (goneD c x) (labD c x) (freeD c x) g q n f rb m cap i lv first last w' h hn6' hq hi hp ha)
 have HCA:=hide (fun (x:RC) (pv:Value) (w':World) (h:PRowAt w' g q n f pv)=>raised_any x.b x.origin (goneD c x) (labD c x) (freeD c x) g q n f pv lv lb w' h hn6' hq)
 have HOWN:=hide hown
 have HROW:=hide hr
 have HCO:=hide hcl
 have hgl:=hr.lt
 have HNE:=hide hne
 generalize hpp:meantB c row lv first last=p at *
 clear hpp hr hl hcl hn hf hn6 hne hlv hlb hlat
 obtain⟨ao,cap,hpv⟩:=hown.shape
 subst hpv
 clear hown
 go_enter Try.func51,Try.ntmps51
 go_wp2
 go_loopw [10] (fun i wr=>∃ k:Nat,k≤row.length∧i=.int .i64 k∧OwnL 140 20 (pcV c) wr B (.slice ao row.length cap) (markIf p ⟨3,lv,lb⟩ row k)∧PRowAt wr g q n f (.slice ao row.length cap)∧Only (fun k=>(Value.slice ao row.length cap).ownBlock=some k) w wr) (fun i _=>row.length-(intOf i).toNat)
 case atStart=>exact⟨0,Nat.zero_le _,rfl,by rw [markIf_zero];exact HOWN.out,HROW.out,Only.refl _ _⟩
 case round=>
  obtain⟨wo,rfl⟩:∃ x,x=wr:=⟨_,rfl⟩
  obtain⟨k,hk,rfl,hov,hrv,honly⟩:=hrel
  have HOV:=hide hov
  have HRV:=hide hrv
  have HON:=hide honly
  have d0:=hrv.cells
  clear hov hrv honly
  by_cases hlt:k<row.length
  ·have hki:(k:Int)<(row.length:Int):=by omega
   have hml:=markIf_length p ⟨3,lv,lb⟩ row k
   obtain⟨rb,cp,hvv,_,hrbl⟩:=HOV.out.form (by omega)
   simp only [Value.slice.injEq] at hvv
   obtain⟨rfl,hxx,rfl⟩:=hvv
   clear hxx
   have HML:=hide hml
   have hej:row[k]?=some row[k]:=List.getElem?_eq_getElem hlt
   have HXK:=hide (markIf_at (p:=p) (m:=⟨3,lv,lb⟩) hej)
   have HYES:=hide (fun h=>markIf_yes (p:=p) (m:=⟨3,lv,lb⟩) h hej)
   have HNO:=hide (fun h=>markIf_no (p:=p) (m:=⟨3,lv,lb⟩) (row:=row) (k:=k) h)
   obtain⟨p0,q0⟩:=HOV.out.part (pcV_length c) (g:=rb) rfl HXK.out
   have hx:=HCO.out _ (List.getElem_mem hlt)
   have HPK:=hide (HMP.out row[k] k hx hej)
   have HM1:=hide (HMT.out row[k] rb row.length cap k wo HRV.out hlt p0 q0)
   have HEQ:=hide (HNEW.out row[k] hx)
   have HCX:=hide (fun pv w' h=>HCA.out row[k] pv w' h)
   have HWK:=hide (show ∀ l:List RC,l.length=row.length→k<l.length from fun l hl=>by omega)
   have hkm:k<(markIf p ⟨3,lv,lb⟩ row k).length:=by omega
   have hgne:g≠rb:=HNE.out rb rfl
   have hgo:=HRV.out.lt
   clear hml
   generalize row[k]=x at *
   rw [HPK.out] at HM1
   clear hej hx
   go_wp2_with fail
   refine (HM1.out).mono ?_
   rintro e w3 ⟨rfl,hb3⟩
   have HO3:=hide (HOV.out.below hb3)
   have HR3:=hide (HRV.out.below hb3 hgo)
   have HON3:=hide (HON.out.trans (Only.of_below (F:=fun _=>False) hb3) (fun k h=>h.elim))
   have hl3:=HR3.out.lt
   have d1:=HR3.out.cells
   clear d0 p0 q0 hb3
   cases hpk:p k
   ·have HN1:=hide (HNO.out hpk)
    go_wp2
    go_roundw
    case rel=>exact⟨k+1,by omega,by go_num,by rw [HN1.out];exact HO3.out,HR3.out,HON3.out⟩
    case measure=>simp [intOf];omega
   ·have HY1:=hide (HYES.out hpk)
    obtain⟨p3,q3⟩:=HO3.out.part (pcV_length c) (g:=rb) rfl HXK.out
    have HCL:=hide (HCX.out _ w3.drew HR3.out)
    rw [HEQ.out] at HCL
    have k5:=cellG_ok x.b x.origin (goneD c (marked ⟨3,lv,lb⟩ x)) (labD c (marked ⟨3,lv,lb⟩ x)) (freeD c (marked ⟨3,lv,lb⟩ x))
    have k5:okRow (pcV c (marked ⟨3,lv,lb⟩ x)).toArray 20:=k5
    have HCC:=hide (show (cellG x.b x.origin (goneD c x) (labD c x) (freeD c x)).toArray=(pcV c x).toArray from rfl)
    rw [HCC.out] at HCL
    generalize hy:marked ⟨3,lv,lb⟩ x=y at *
    clear hpk hy
    go_wp2_with fail
    refine wp_region_held_drew (S:=(fun w'=>w'.cell? ⟨g,q+37,none⟩=some (.slice (some ⟨rb,0,none⟩) row.length cap))) (by kernel_rfl) ?_ (fun hHeld=>?_)
    ·exact d1
    refine tV 0 26 ?_
    (try simp only [Act.put,lA,lZ,lS])
    refine tV 1 27 ?_
    (try simp only [Act.put,lA,lZ,lS])
    refine tV 2 28 ?_
    (try simp only [Act.put,lA,lZ,lS])
    refine tV 3 29 ?_
    (try simp only [Act.put,lA,lZ,lS])
    refine tV 4 30 ?_
    (try simp only [Act.put,lA,lZ,lS])
    refine tV 5 31 ?_
    (try simp only [Act.put,lA,lZ,lS])
    refine tV 6 32 ?_
    (try simp only [Act.put,lA,lZ,lS])
    refine tV 7 33 ?_
    (try simp only [Act.put,lA,lZ,lS])
    refine tV 8 34 ?_
    (try simp only [Act.put,lA,lZ,lS])
    refine tV 9 35 ?_
    (try simp only [Act.put,lA,lZ,lS])
    refine tV 10 36 ?_
    (try simp only [Act.put,lA,lZ,lS])
    refine tV 11 37 ?_
    (try simp only [Act.put,lA,lZ,lS])
    refine tV 13 39 ?_
    (try simp only [Act.put,lA,lZ,lS])
    refine tV 14 40 ?_
    (try simp only [Act.put,lA,lZ,lS])
    refine wpAnyH_ready (rs:=[12]) (by kernel_rfl) (by simp) ?_
    refine AllReadyH.cons rfl (fun K hK=>?_) AllReadyH.nil
    go_simp
    refine hK.out _ _ ?_ (fun hHeld=>?_)
    ·exact d1
    clear hK K
    refine wpAnyH_ready (rs:=[15]) (by kernel_rfl) (by simp) ?_
    refine AllReadyH.cons rfl (fun K hK=>?_) AllReadyH.nil
    go_simp
    go_wp2_with (go_at_call 80;refine (HCL.out).mono ?_;rintro e w5 ⟨rfl,hb5⟩;have HR5:=hide (PRowAt.below (w:=w3.drew) HR3.out hb5 hl3);have d5:=HR5.out.cells;have HO5:=hide (OwnL.below (w:=w3.drew) HO3.out hb5);have p5:=(HO5.out.part (pcV_length c) rfl HXK.out).1;have HO6:=hide (HO5.out.put (pcV_length c) rfl hkm y);have HR6:=hide (HR5.out.others (o:=k*20) (vs:=pcV c y) hgne);have d6:=HR6.out.cells)
    refine hK.out _ _ ?_ (fun hHeld=>?_)
    ·exact d5
    clear hK K
    refine tV 16 42 ?_
    (try simp only [Act.put,lA,lZ,lS])
    refine wpAnyH_ready (rs:=[17]) (by kernel_rfl) (by simp) ?_
    refine AllReadyH.cons rfl (fun K hK=>?_) AllReadyH.nil
    go_simp
    refine hK.out _ _ ?_ (fun hHeld=>?_)
    ·exact d6
    clear hK K
    refine wpAnyH_done (by kernel_rfl) ?_ _
    have HON6:=hide ((HON3.out.trans (Only.of_below (F:=fun _=>False) (below_drew w3)) (fun k h=>h.elim)).trans (Only.of_below (F:=fun _=>False) (w:=w3.drew) hb5) (fun k h=>h.elim))
    have HON7:=hide (HON6.out.setCells (g:=rb) (o:=k*20) (vs:=pcV c y) rfl)
    clear d1 d5 d6 p5 p3 q3 k5
    go_wp2
    go_roundw
    case rel=>exact⟨k+1,by omega,by go_num,by rw [HY1.out];exact HO6.out,HR6.out,HON7.out⟩
    case measure=>simp [intOf];omega
  ·obtain rfl:k=row.length:=by omega
   have hkc:decide ((row.length:Int)<(row.length:Int))=false:=by simp
   go_wp2
   go_end0
   exact⟨rfl,HOV.out,HON.out⟩
theorem rwRelease_any (c:Cfg) (row:List RC) (g q n:Nat) (f:Nat→Nat→Bool) (pv:Value) (B lv tg first last:Nat) (w:World) (hown:OwnL 140 20 (pcV c) w B pv row) (hr:PRowAt w g q n f pv) (hne:∀ b,pv.ownBlock=some b→g≠b) (hn:n=c.n) (hf:f=tT c) (hl:labelsB c=true) (hcl:∀ x,x ∈ row→RCOk c x) (htg:tg<c.n) (hq:0<q) (hlen:row.length≤1000000) :
  Calls Try.prog 55 #[.pointer (some ⟨g,q,none⟩),.int .i64 lv,.int .i64 first,.int .i64 last,.int .i64 tg] w fun e w'=>e=.returned (.tuple #[])∧OwnL 140 20 (pcV c) w' B pv (markIf (meantB c row lv first last) ⟨4,tg,0⟩ row row.length)∧Only (fun k=>pv.ownBlock=some k) w w':=by
 obtain⟨_,_,_,_,_,hn6,_⟩:=labels_of hl
 have hn6':n≤6:=by omega
 have HMP:=hide (fun (x:RC) (k:Nat) (hx:RCOk c x) (hk:row[k]?=some x)=>show meantP n f x.origin (goneD c x) lv first last k=meantB c row lv first last k by
  subst hn;subst hf
  unfold meantP meantB thR
  rw [thereP_there hl x hx lv]
  have:cellAt row k=x:=by simp [cellAt,List.getD,hk]
  rw [this])
 have HNEW:=hide (fun (x:RC) (hx:RCOk c x)=>show cellG x.b x.origin (goneD c x) (upL (leD n f tg) (fun _=>x.origin) (labD c x) 6) (upK (leD n f tg) true (freeD c x) 6)=pcV c (marked ⟨4,tg,0⟩ x) by
  subst hn;subst hf
  exact pcV_released hl x tg 0 htg)
 have HMT:=hide (fun (x:RC) (rb m cap i:Nat) (w':World) (h:PRowAt w' g q n f (.slice (some ⟨rb,0,none⟩) m cap)) (hi:i<m) (hp:partIs w' rb (i*20) 20) (ha:partAt w' rb (i*20) 20=(pcV c x).toArray)=>isMeant_any x.b x.origin (goneD c x) (labD c x) (freeD c x) g q n f rb m cap i lv first last w' h hn6' hq hi hp ha)
 have HCA:=hide (fun (x:RC) (pv:Value) (w':World) (h:PRowAt w' g q n f pv)=>released_any x.b x.origin (goneD c x) (labD c x) (freeD c x) g q n f pv tg w' h hn6' hq)
 have HOWN:=hide hown
 have HROW:=hide hr
 have HCO:=hide hcl
 have hgl:=hr.lt
 have HNE:=hide hne
 generalize hpp:meantB c row lv first last=p at *
 clear hpp hr hl hcl hn hf hn6 hne htg
 obtain⟨ao,cap,hpv⟩:=hown.shape
 subst hpv
 clear hown
 go_enter Try.func55,Try.ntmps55
 go_wp2
 go_loopw [10] (fun i wr=>∃ k:Nat,k≤row.length∧i=.int .i64 k∧OwnL 140 20 (pcV c) wr B (.slice ao row.length cap) (markIf p ⟨4,tg,0⟩ row k)∧PRowAt wr g q n f (.slice ao row.length cap)∧Only (fun k=>(Value.slice ao row.length cap).ownBlock=some k) w wr) (fun i _=>row.length-(intOf i).toNat)
 case atStart=>exact⟨0,Nat.zero_le _,rfl,by rw [markIf_zero];exact HOWN.out,HROW.out,Only.refl _ _⟩
 case round=>
  obtain⟨wo,rfl⟩:∃ x,x=wr:=⟨_,rfl⟩
  obtain⟨k,hk,rfl,hov,hrv,honly⟩:=hrel
  have HOV:=hide hov
  have HRV:=hide hrv
  have HON:=hide honly
  have d0:=hrv.cells
  clear hov hrv honly
  by_cases hlt:k<row.length
  ·have hki:(k:Int)<(row.length:Int):=by omega
   have hml:=markIf_length p ⟨4,tg,0⟩ row k
   obtain⟨rb,cp,hvv,_,hrbl⟩:=HOV.out.form (by omega)
   simp only [Value.slice.injEq] at hvv
   obtain⟨rfl,hxx,rfl⟩:=hvv
   clear hxx
   have HML:=hide hml
   have hej:row[k]?=some row[k]:=List.getElem?_eq_getElem hlt
   have HXK:=hide (markIf_at (p:=p) (m:=⟨4,tg,0⟩) hej)
   have HYES:=hide (fun h=>markIf_yes (p:=p) (m:=⟨4,tg,0⟩) h hej)
   have HNO:=hide (fun h=>markIf_no (p:=p) (m:=⟨4,tg,0⟩) (row:=row) (k:=k) h)
   obtain⟨p0,q0⟩:=HOV.out.part (pcV_length c) (g:=rb) rfl HXK.out
   have hx:=HCO.out _ (List.getElem_mem hlt)
   have HPK:=hide (HMP.out row[k] k hx hej)
   have HM1:=hide (HMT.out row[k] rb row.length cap k wo HRV.out hlt p0 q0)
   have HEQ:=hide (HNEW.out row[k] hx)
   have HCX:=hide (fun pv w' h=>HCA.out row[k] pv w' h)
   have HWK:=hide (show ∀ l:List RC,l.length=row.length→k<l.length from fun l hl=>by omega)
   have hkm:k<(markIf p ⟨4,tg,0⟩ row k).length:=by omega
   have hgne:g≠rb:=HNE.out rb rfl
   have hgo:=HRV.out.lt
   clear hml
   generalize row[k]=x at *
   rw [HPK.out] at HM1
   clear hej hx
   go_wp2_with fail
   refine (HM1.out).mono ?_
   rintro e w3 ⟨rfl,hb3⟩
   have HO3:=hide (HOV.out.below hb3)
   have HR3:=hide (HRV.out.below hb3 hgo)
   have HON3:=hide (HON.out.trans (Only.of_below (F:=fun _=>False) hb3) (fun k h=>h.elim))
   have hl3:=HR3.out.lt
   have d1:=HR3.out.cells
   clear d0 p0 q0 hb3
   cases hpk:p k
   ·have HN1:=hide (HNO.out hpk)
    go_wp2
    go_roundw
    case rel=>exact⟨k+1,by omega,by go_num,by rw [HN1.out];exact HO3.out,HR3.out,HON3.out⟩
    case measure=>simp [intOf];omega
   ·have HY1:=hide (HYES.out hpk)
    obtain⟨p3,q3⟩:=HO3.out.part (pcV_length c) (g:=rb) rfl HXK.out
    have HCL:=hide (HCX.out _ w3.drew HR3.out)
    rw [HEQ.out] at HCL
    have k5:=cellG_ok x.b x.origin (goneD c (marked ⟨4,tg,0⟩ x)) (labD c (marked ⟨4,tg,0⟩ x)) (freeD c (marked ⟨4,tg,0⟩ x))
    have k5:okRow (pcV c (marked ⟨4,tg,0⟩ x)).toArray 20:=k5
    have HCC:=hide (show (cellG x.b x.origin (goneD c x) (labD c x) (freeD c x)).toArray=(pcV c x).toArray from rfl)
    rw [HCC.out] at HCL
    generalize hy:marked ⟨4,tg,0⟩ x=y at *
    clear hpk hy
    go_wp2_with fail
    refine wp_region_held_drew (S:=(fun w'=>w'.cell? ⟨g,q+37,none⟩=some (.slice (some ⟨rb,0,none⟩) row.length cap))) (by kernel_rfl) ?_ (fun hHeld=>?_)
    ·exact d1
    refine tV 0 26 ?_
    (try simp only [Act.put,lA,lZ,lS])
    refine tV 1 27 ?_
    (try simp only [Act.put,lA,lZ,lS])
    refine tV 2 28 ?_
    (try simp only [Act.put,lA,lZ,lS])
    refine tV 3 29 ?_
    (try simp only [Act.put,lA,lZ,lS])
    refine tV 4 30 ?_
    (try simp only [Act.put,lA,lZ,lS])
    refine tV 5 31 ?_
    (try simp only [Act.put,lA,lZ,lS])
    refine tV 6 32 ?_
    (try simp only [Act.put,lA,lZ,lS])
    refine tV 7 33 ?_
    (try simp only [Act.put,lA,lZ,lS])
    refine tV 8 34 ?_
    (try simp only [Act.put,lA,lZ,lS])
    refine tV 9 35 ?_
    (try simp only [Act.put,lA,lZ,lS])
    refine tV 10 36 ?_
    (try simp only [Act.put,lA,lZ,lS])
    refine tV 11 37 ?_
    (try simp only [Act.put,lA,lZ,lS])
    refine tV 13 39 ?_
    (try simp only [Act.put,lA,lZ,lS])
    refine wpAnyH_ready (rs:=[12]) (by kernel_rfl) (by simp) ?_
    refine AllReadyH.cons rfl (fun K hK=>?_) AllReadyH.nil
    go_simp
    refine hK.out _ _ ?_ (fun hHeld=>?_)
    ·exact d1
    clear hK K
    refine wpAnyH_ready (rs:=[14]) (by kernel_rfl) (by simp) ?_
    refine AllReadyH.cons rfl (fun K hK=>?_) AllReadyH.nil
    go_simp
    go_wp2_with (go_at_call 82;refine (HCL.out).mono ?_;rintro e w5 ⟨rfl,hb5⟩;have HR5:=hide (PRowAt.below (w:=w3.drew) HR3.out hb5 hl3);have d5:=HR5.out.cells;have HO5:=hide (OwnL.below (w:=w3.drew) HO3.out hb5);have p5:=(HO5.out.part (pcV_length c) rfl HXK.out).1;have HO6:=hide (HO5.out.put (pcV_length c) rfl hkm y);have HR6:=hide (HR5.out.others (o:=k*20) (vs:=pcV c y) hgne);have d6:=HR6.out.cells)
    refine hK.out _ _ ?_ (fun hHeld=>?_)
    ·exact d5
    clear hK K
    refine tV 15 41 ?_
    (try simp only [Act.put,lA,lZ,lS])
    refine wpAnyH_ready (rs:=[16]) (by kernel_rfl) (by simp) ?_
    refine AllReadyH.cons rfl (fun K hK=>?_) AllReadyH.nil
    go_simp
    refine hK.out _ _ ?_ (fun hHeld=>?_)
    ·exact d6
    clear hK K
    refine wpAnyH_done (by kernel_rfl) ?_ _
    have HON6:=hide ((HON3.out.trans (Only.of_below (F:=fun _=>False) (below_drew w3)) (fun k h=>h.elim)).trans (Only.of_below (F:=fun _=>False) (w:=w3.drew) hb5) (fun k h=>h.elim))
    have HON7:=hide (HON6.out.setCells (g:=rb) (o:=k*20) (vs:=pcV c y) rfl)
    clear d1 d5 d6 p5 p3 q3 k5
    go_wp2
    go_roundw
    case rel=>exact⟨k+1,by omega,by go_num,by rw [HY1.out];exact HO6.out,HR6.out,HON7.out⟩
    case measure=>simp [intOf];omega
  ·obtain rfl:k=row.length:=by omega
   have hkc:decide ((row.length:Int)<(row.length:Int))=false:=by simp
   go_wp2
   go_end0
   exact⟨rfl,HOV.out,HON.out⟩
end Go.Proofs.Ytgigkiocdiffjab
