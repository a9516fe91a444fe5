import Derived.Test.YtgigkiocdiffjaaGreatS21
import Derived.Test.YtgigkiocdiffjaaGreatS12
import Derived.Test.YtgigkiocdiffjaaGreatS11
import Derived.Great.BuildSlice
set_option maxRecDepth 100000
set_option maxHeartbeats 16000000
namespace Go.Proofs.YtgigkiocdiffjaaGreat
open Go.RowKit Veil
theorem Tryz.infoPSeen:(Tryz.prog.info? 208).map (fun i=>(i.zero,i.size,i.bytes))=some (some (.agg #[.int .i64 0,.int .u8 0,.bool false,.bool false]),4,16):=by kernel_rfl
theorem firstTo_yes {c:Cfg} {row:List RC} {d k:Nat} (h:thereB c (cellAt row k) d=true):firstTo c row d (k+1)=firstTo c row d k++[seC c row d k]:=by
 unfold firstTo;rw [atTo_yes h,List.map_append];rfl
theorem firstTo_no {c:Cfg} {row:List RC} {d k:Nat} (h:thereB c (cellAt row k) d=false):firstTo c row d (k+1)=firstTo c row d k:=by
 unfold firstTo;rw [atTo_no h]
theorem firstTo_length (c:Cfg) (row:List RC) (d k:Nat):(firstTo c row d k).length≤k:=by
 unfold firstTo;rw [List.length_map];exact atTo_length c row d k
theorem seC_at {c:Cfg} {row:List RC} {d k:Nat} {x:RC} (h:row[k]?=some x):seC c row d k=⟨k,x.b,!c.le (labD c x d) d,freeD c x d⟩:=by
 have hc:cellAt row k=x:=by simp [cellAt,List.getD,h]
 unfold seC byF hidR labD freeD;rw [hc]
theorem rwFirst_any (c:Cfg) (row:List RC) (g q n:Nat) (f:Nat→Nat→Bool) (pv:Value) (B lv:Nat) (w:World) (hown:OwnL 181 20 (pcV c) w B pv row) (hr:PRowAt w g q n f pv) (hn:n=c.n) (hf:f=tT c) (hl:labelsB c=true) (hlat:¬ c.noLat) (hcl:∀ x,x ∈ row→RCOk c x) (hlv:lv<c.n) (hq:0<q) (hlen:row.length≤1000000) :
  Calls Tryz.prog 109 #[.pointer (some ⟨g,q,none⟩),.int .i64 lv] w fun e w'=>∃ vl,e=.returned vl∧OwnL 208 4 seV w' w.heap.size vl (firstTo c row lv row.length)∧Below w.heap.size w w':=by
 obtain⟨_,_,_,_,_,hn6,_⟩:=labels_of hl
 have hn6':n≤6:=by omega
 have hlv6:lv<6:=by omega
 have hlvi:(lv:Int)<6:=by omega
 have HTP:=hide (fun (x:RC) (hx:RCOk c x)=>show thereP n f x.origin (goneD c x) lv=thereB c x lv by
  subst hn;subst hf;exact thereP_there hl x hx lv)
 have HTH:=hide (fun (x:RC) (pv:Value) (w':World) (h:PRowAt w' g q n f pv)=>isThere_any x.b x.origin (goneD c x) (labD c x) (freeD c x) g q n f pv lv w' h hn6' hq)
 have HLQ:=hide (fun (x:RC) (hx:RCOk c x) (w':World)=>show Calls Tryz.prog 113 #[.agg (ordC n f),.int .i64 (labD c x lv),.int .i64 lv] w' fun e w''=>e=.returned (.bool (c.le (labD c x lv) lv))∧Below w'.heap.size w' w'' from (oleq_any n f (labD c x lv) lv w' hn6').mono fun e w'' ⟨h1,h2⟩=>⟨by
  rw [h1];subst hn;subst hf
  exact ret_bool (leO_le hl _ _ (seenF_lt hlat hx lv) hlv),h2⟩)
 have HOWN:=hide hown
 have HROW:=hide hr
 have HCO:=hide hcl
 have hgl:=hr.lt
 obtain⟨ao,cap,hpv⟩:=hown.shape
 subst hpv
 have d0:=hr.cells
 clear hown hr hl hlat hcl hn hf hlv hn6
 go_enter Tryz.func109,Tryz.ntmps109
 go_wp2
 clear d0
 go_loopw [5,15] (fun vl i wr=>∃ k:Nat,k≤row.length∧i=.int .i64 k∧OwnL 208 4 seV wr w.heap.size vl (firstTo c row lv k)∧Below w.heap.size w wr) (fun _ i _=>row.length-(intOf i).toNat)
 case atStart=>exact⟨0,Nat.zero_le _,rfl,OwnL.nil _ _ _ _ _,Below.refl _ _⟩
 case round=>
  obtain⟨wo,rfl⟩:∃ x,x=wr:=⟨_,rfl⟩
  obtain⟨k,hk,rfl,hvl,hbel⟩:=hrel
  have HVL:=hide hvl
  clear hvl
  by_cases hlt:k<row.length
  ·have hki:(k:Int)<(row.length:Int):=by omega
   obtain⟨rb,cp,hvv,_,hrbl⟩:=HOWN.out.form (by omega)
   simp only [Value.slice.injEq] at hvv
   obtain⟨rfl,_,rfl⟩:=hvv
   have hej:row[k]?=some row[k]:=List.getElem?_eq_getElem hlt
   have HOo:=hide (HOWN.out.below (hbel.mono (Nat.le_refl _)))
   obtain⟨p0,q0⟩:=HOo.out.part (pcV_length c) (g:=rb) rfl hej
   have hx:=HCO.out _ (List.getElem_mem hlt)
   have hcat:cellAt row k=row[k]:=by simp [cellAt,List.getD,hej]
   have HT1:=hide (HTP.out row[k] hx)
   have HTX:=hide (fun pv w' h=>HTH.out row[k] pv w' h)
   have HQX:=hide (fun w'=>HLQ.out row[k] hx w')
   have HYES:=hide (fun h=>firstTo_yes (c:=c) (row:=row) (d:=lv) (k:=k) h)
   have HNO:=hide (fun h=>firstTo_no (c:=c) (row:=row) (d:=lv) (k:=k) h)
   have HSC:=hide (seC_at (c:=c) (d:=lv) hej)
   have hfl:=firstTo_length c row lv k
   rw [hcat] at HYES HNO
   generalize row[k]=x at *
   rw [HT1.out] at HTX
   have HA1:=hide (cell_new wo 0 0 noB noL noB)
   have i1:=HA1.out.is
   have k5:okRow (pcV c x).toArray 20:=cellG_ok ..
   have HA2:Hid (CellAt ((wo.alloc (.cells (cellG 0 0 noB noL noB).toArray 181)).setCells wo.heap.size 0 (pcV c x)) wo.heap.size x.b x.origin (goneD c x) (labD c x) (freeD c x)):=HA1.out.store _ (pcV_length c x)
   have hbA:Below wo.heap.size wo ((wo.alloc (.cells (cellG 0 0 noB noL noB).toArray 181)).setCells wo.heap.size 0 (pcV c x)):=below_setCells ((Below.refl _ _).alloc (Nat.le_refl _) _) (Nat.le_refl _) _ _
   have hbelA:=hbel.trans (hbA.mono hbel.size)
   have i2:=HA2.out.is
   have a2:=HA2.out.at
   have HRA:=hide (HROW.out.below hbelA hgl)
   have HTA:=hide (HTX.out _ _ HRA.out)
   have HVA:=hide (HVL.out.below hbA)
   rw [show cellG x.b x.origin (goneD c x) (labD c x) (freeD c x)=pcV c x from rfl] at HTA a2
   have hltA:=HA2.out.lt
   generalize hwA:(wo.alloc (.cells (cellG 0 0 noB noL noB).toArray 181)).setCells wo.heap.size 0 (pcV c x)=wA at *
   clear hej hx hcat
   go_wp2_with (first|(refine wpList_alloc_cell rfl rfl ?_))
   refine (HTA.out).mono ?_
   rintro e w3 ⟨rfl,hb3⟩
   have hbel3:=hbelA.trans (hb3.mono hbelA.size)
   have HV3:=hide (HVA.out.below hb3)
   have HA3:=hide (HA2.out.below hb3 hltA)
   have HR3:=hide (HROW.out.below hbel3 hgl)
   clear i1 i2 a2 p0 q0 hwA hbA hb3
   cases hth:thereB c x lv
   ·have HN1:=hide (HNO.out hth)
    go_wp2
    go_roundw
    case rel=>exact⟨k+1,by omega,by go_num,by rw [HN1.out];exact HV3.out,hbel3⟩
    case measure=>simp [intOf];omega
   ·have HY1:=hide (HYES.out hth)
    rw [HSC.out] at HY1
    have g3:=HA3.out.gone lv hlv6
    have l3:=HA3.out.lab lv hlv6
    have f3:=HA3.out.free lv hlv6
    have b3:=HA3.out.byte
    generalize goneD c x lv=G0 at *
    generalize freeD c x lv=F0 at *
    generalize hL0:labD c x lv=L0 at *
    generalize x.b=xb at *
    have hbB:Below w3.heap.size w3 (w3.alloc (.cells #[.bool G0,.int .i64 L0,.bool F0] 178)):=below_box _ _
    have hbelB:=hbel3.trans (hbB.mono hbel3.size)
    have HRB:=hide (show PRowAt (w3.alloc (.cells #[.bool G0,.int .i64 L0,.bool F0] 178)).drew g q n f _ from HROW.out.below hbelB.drew hgl)
    have HNB:=hide (Go.heap_alloc_new w3 (.cells #[.bool G0,.int .i64 L0,.bool F0] 178))
    have hw3:wo.heap.size<w3.heap.size:=HA3.out.lt
    have iB:=HRB.out.is
    have aB:=HRB.out.at
    have s1:(w3.alloc (.cells #[.bool G0,.int .i64 L0,.bool F0] 178)).cell? ⟨w3.heap.size,1,none⟩=some (.int .i64 L0):=by rw [cell_of_row _ _ _ _ _ _ HNB.out];rfl
    have s2:(w3.alloc (.cells #[.bool G0,.int .i64 L0,.bool F0] 178)).cell? ⟨w3.heap.size,2,none⟩=some (.bool F0):=by rw [cell_of_row _ _ _ _ _ _ HNB.out];rfl
    have s3:(w3.alloc (.cells #[.bool G0,.int .i64 L0,.bool F0] 178)).cell? ⟨wo.heap.size,0,none⟩=some (.int .u8 xb):=(hbB.cell (p:=⟨wo.heap.size,0,none⟩) hw3).trans b3
    have HQB:=hide (HQX.out (w3.alloc (.cells #[.bool G0,.int .i64 L0,.bool F0] 178)).drew)
    have HVB:=hide (HV3.out.below hbB)
    have hsB:w3.heap.size<(w3.alloc (.cells #[.bool G0,.int .i64 L0,.bool F0] 178)).heap.size:=by simp
    have hltB:=HRB.out.lt
    clear hL0
    go_wp2_with fail
    refine wp_region_held_drew (S:=(fun w'=>((partIs w' g q 37∧partAt w' g q 37=ordC n f)∧w'.cell? ⟨w3.heap.size,1,none⟩=some (.int .i64 L0)))) (by kernel_rfl) ?_ (fun hHeld=>?_)
    ·exact⟨⟨iB,aB⟩,s1⟩
    refine tV 0 28 ?_
    (try simp only [Act.put,lA,lZ,lS])
    refine tV 1 29 ?_
    (try simp only [Act.put,lA,lZ,lS])
    refine tV 2 30 ?_
    (try simp only [Act.put,lA,lZ,lS])
    refine tW 3 31 (.agg (ordC n f)) ?_ ?_
    ·(intro o ho w hSw;obtain rfl:=Option.some.inj ho;clear ho;exact exec_load_ord rfl rfl hSw.1.1 hSw.1.2)
    (try simp only [Act.put,lA,lZ,lS])
    refine tV 4 32 ?_
    (try simp only [Act.put,lA,lZ,lS])
    refine tV 5 33 ?_
    (try simp only [Act.put,lA,lZ,lS])
    refine tV 6 34 ?_
    (try simp only [Act.put,lA,lZ,lS])
    refine wpAnyH_ready (rs:=[7]) (by kernel_rfl) (by simp) ?_
    refine AllReadyH.cons rfl (fun K hK=>?_) AllReadyH.nil
    go_simp
    go_wp2_with (go_at_call 113;refine (HQB.out).mono ?_;rintro e w5 ⟨rfl,hb5⟩;have HR5:=hide (HRB.out.below hb5 hltB);have i5:=HR5.out.is;have a5:=HR5.out.at;have t1:=(hb5.cell (p:=⟨w3.heap.size,1,none⟩) hsB).trans s1;have t2:=(hb5.cell (p:=⟨w3.heap.size,2,none⟩) hsB).trans s2;have t3:=(hb5.cell (p:=⟨wo.heap.size,0,none⟩) (Nat.lt_trans hw3 hsB)).trans s3)
    refine hK.out _ _ ?_ (fun hHeld=>?_)
    ·exact⟨⟨i5,a5⟩,t1⟩
    clear hK K
    refine tV 8 36 ?_
    (try simp only [Act.put,lA,lZ,lS])
    refine tV 9 9 ?_
    (try simp only [Act.put,lA,lZ,lS])
    refine wpAnyH_done (by kernel_rfl) ?_ _
    have hbel5:=hbelB.drew.trans (hb5.mono hbelB.drew.size)
    have HV5:=hide (show OwnL 208 4 seV w5 w.heap.size _ (firstTo c row lv k) from OwnL.below (w:=(w3.alloc (.cells #[.bool G0,.int .i64 L0,.bool F0] 178)).drew) HVB.out hb5)
    generalize hH0:c.le (↑L0) (↑lv)=H0 at *
    have hbC:Below w5.heap.size w5 (w5.alloc (.cells #[.int .i64 k,.int .u8 xb,.bool (!H0),.bool F0] 208)):=below_box _ _
    have hbelC:=hbel5.trans (hbC.mono hbel5.size)
    have HVC:=hide (HV5.out.below hbC)
    have HNC:=hide (Go.heap_alloc_new w5 (.cells #[.int .i64 k,.int .u8 xb,.bool (!H0),.bool F0] 208))
    clear iB aB s1 s2 s3 i5 a5 t1 g3 l3 f3 b3 hH0
    go_wp2_with (at_builtin;refine wpList_push rfl (.tmp 37) (.tmp 45) 172 rfl (.agg #[.int .i64 0,.int .u8 0,.bool false,.bool false]) 16 Tryz.underlying172 Tryz.infoPSeen rfl (by decide) rfl HVC.out w5.heap.size 1 ⟨k,xb,!H0,F0⟩ rfl 208 (0,0) HNC.out rfl (by intro u hu;simp [seV] at hu;rcases hu with rfl|rfl|rfl|rfl <;> rfl) (by omega) (by decide) hbelC.size (w5.heap.size+1) (by simp) ?_;intro g6 cap6 w6 hown6 hgrow6 hat6 hlt6)
    have hb6:=hbelC.trans (below_of_grown hgrow6 (fun b hb=>(HVC.out.lt hb).1) hbelC.size)
    go_roundw
    case rel=>exact⟨k+1,by omega,by go_num,by rw [HY1.out];exact hown6,hb6⟩
    case measure=>simp [intOf];omega
  ·obtain rfl:k=row.length:=by omega
   have hkc:decide ((row.length:Int)<(row.length:Int))=false:=by simp
   go_wp2
   go_ret
   exact⟨_,rfl,HVL.out,hbel⟩
end Go.Proofs.YtgigkiocdiffjaaGreat
namespace Go.Proofs.YtgigkiocdiffjaaGreat
open Go.RowKit Veil
theorem allR_snoc (p:Nat→Bool) (k:Nat):(List.range (k+1)).all p=((List.range k).all p && p k):=by rw [List.range_succ,List.all_append];simp
theorem allR_false {p:Nat→Bool} {k m:Nat} (hk:k<m) (h:p k=false):(List.range m).all p=false:=by
 cases ha:(List.range m).all p
 ·rfl
 ·rw [List.all_eq_true] at ha
  have:=ha k (List.mem_range.2 hk)
  rw [h] at this;cases this
def stemB (c:Cfg) (row:List RC) (lv first last tg i:Nat):Bool:=!meantB c row lv first last i || c.le (cellAt row i).origin tg
theorem rwStem_any (c:Cfg) (row:List RC) (g q n:Nat) (f:Nat→Nat→Bool) (pv:Value) (B lv first last tg:Nat) (w:World) (hown:OwnL 181 20 (pcV c) w B pv row) (hr:PRowAt w g q n f pv) (hn:n=c.n) (hf:f=tT c) (hl:labelsB c=true) (hcl:∀ x,x ∈ row→RCOk c x) (htg:tg<c.n) (hq:0<q) (hlen:row.length≤1000000) :
  Calls Tryz.prog 64 #[.pointer (some ⟨g,q,none⟩),.int .i64 lv,.int .i64 first,.int .i64 last,.int .i64 tg] w fun e w'=>e=.returned (.bool ((List.range row.length).all (stemB c row lv first last tg)))∧Below w.heap.size w w':=by
 obtain⟨_,_,_,_,_,hn6,_⟩:=labels_of hl
 have hn6':n≤6:=by omega
 have HMP:=hide (fun (x:RC) (k:Nat) (hx:RCOk c x) (hk:row[k]?=some x)=>show meantP n f x.origin (goneD c x) lv first last k=meantB c row lv first last k by
  subst hn;subst hf
  unfold meantP meantB thR
  rw [thereP_there hl x hx lv]
  have:cellAt row k=x:=by simp [cellAt,List.getD,hk]
  rw [this])
 have HMT:=hide (fun (x:RC) (rb m cap i:Nat) (w':World) (h:PRowAt w' g q n f (.slice (some ⟨rb,0,none⟩) m cap)) (hi:i<m) (hp:partIs w' rb (i*20) 20) (ha:partAt w' rb (i*20) 20=(pcV c x).toArray)=>isMeant_any x.b x.origin (goneD c x) (labD c x) (freeD c x) g q n f rb m cap i lv first last w' h hn6' hq hi hp ha)
 have HLQ:=hide (fun (x:RC) (hx:RCOk c x) (w':World)=>show Calls Tryz.prog 113 #[.agg (ordC n f),.int .i64 x.origin,.int .i64 tg] w' fun e w''=>e=.returned (.bool (c.le x.origin tg))∧Below w'.heap.size w' w'' from (oleq_any n f x.origin tg w' hn6').mono fun e w'' ⟨h1,h2⟩=>⟨by
  rw [h1];subst hn;subst hf
  exact ret_bool (leO_le hl _ _ hx.origin htg),h2⟩)
 have HOWN:=hide hown
 have HROW:=hide hr
 have HCO:=hide hcl
 have hgl:=hr.lt
 have HST:=hide (show ∀ (k:Nat) (x:RC),row[k]?=some x→stemB c row lv first last tg k=(!meantB c row lv first last k || c.le x.origin tg) from fun k x hk=>by
  have:cellAt row k=x:=by simp [cellAt,List.getD,hk]
  unfold stemB;rw [this])
 generalize hpp:meantB c row lv first last=p at *
 generalize hss:stemB c row lv first last tg=st at *
 obtain⟨ao,cap,hpv⟩:=hown.shape
 subst hpv
 clear hown hr hl hcl hn hf htg hn6 hpp hss
 go_enter Tryz.func64,Tryz.ntmps64
 go_wp2
 go_loopw [11] (fun i wr=>∃ k:Nat,k≤row.length∧i=.int .i64 k∧(List.range k).all st=true∧Below w.heap.size w wr) (fun i _=>row.length-(intOf i).toNat)
 case atStart=>exact⟨0,Nat.zero_le _,rfl,rfl,Below.refl _ _⟩
 case round=>
  obtain⟨wo,rfl⟩:∃ x,x=wr:=⟨_,rfl⟩
  obtain⟨k,hk,rfl,hall,hbel⟩:=hrel
  have HALL:=hide hall
  clear hall
  have HRo:=hide (HROW.out.below hbel hgl)
  have d0:=HRo.out.cells
  by_cases hlt:k<row.length
  ·have hki:(k:Int)<(row.length:Int):=by omega
   obtain⟨rb,cp,hvv,_,hrbl⟩:=HOWN.out.form (by omega)
   simp only [Value.slice.injEq] at hvv
   obtain⟨rfl,_,rfl⟩:=hvv
   have hej:row[k]?=some row[k]:=List.getElem?_eq_getElem hlt
   have HOo:=hide (HOWN.out.below (hbel.mono (Nat.le_refl _)))
   obtain⟨p0,q0⟩:=HOo.out.part (pcV_length c) (g:=rb) rfl hej
   have c1:=HOo.out.cell (pcV_length c) (g:=rb) rfl hej (j:=1) (by omega)
   have hx:=HCO.out _ (List.getElem_mem hlt)
   have HPK:=hide (HMP.out row[k] k hx hej)
   have HM1:=hide (HMT.out row[k] rb row.length cap k wo.drew HRo.out hlt p0 q0)
   have HQX:=hide (fun w'=>HLQ.out row[k] hx w')
   have HSX:=hide (HST.out k _ hej)
   have HSN:=hide (allR_snoc st k)
   have HSF:=hide (fun h=>allR_false (p:=st) hlt h)
   have hrbo:rb<wo.heap.size:=Nat.lt_of_lt_of_le hrbl hbel.size
   have hgo:=HRo.out.lt
   have i0:=HRo.out.is
   have a0:=HRo.out.at
   generalize row[k]=x at *
   have c1':wo.cell? ⟨rb,k*20+1,none⟩=some (.int .i64 x.origin):=c1
   rw [HPK.out] at HM1
   generalize x.origin=xo at *
   clear hej hx c1
   cases hpk:p k
   ·rw [hpk] at HM1
    have HS1:=hide (show st k=true by rw [HSX.out,hpk];rfl)
    clear hpk
    go_wp2_with fail
    refine wp_region_held_drew (S:=(fun w'=>((partIs w' g q 37∧partAt w' g q 37=ordC n f)∧w'.cell? ⟨g,q+37,none⟩=some (.slice (some ⟨rb,0,none⟩) row.length cap))∧w'.cell? ⟨rb,k*20+1,none⟩=some (.int .i64 xo))) (by kernel_rfl) ?_ (fun hHeld=>?_)
    ·exact⟨⟨⟨i0,a0⟩,d0⟩,c1'⟩
    refine tV 0 21 ?_
    (try simp only [Act.put,lA,lZ,lS])
    refine tV 1 22 ?_
    (try simp only [Act.put,lA,lZ,lS])
    refine tV 2 23 ?_
    (try simp only [Act.put,lA,lZ,lS])
    refine tV 3 24 ?_
    (try simp only [Act.put,lA,lZ,lS])
    refine tV 4 25 ?_
    (try simp only [Act.put,lA,lZ,lS])
    refine wpAnyH_ready (rs:=[5]) (by kernel_rfl) (by simp) ?_
    refine AllReadyH.cons rfl (fun K hK=>?_) AllReadyH.nil
    go_simp
    go_wp2_with (go_at_call 115;refine (HM1.out).mono ?_;rintro e w3 ⟨rfl,hb3⟩;have HR3:=hide (PRowAt.below (w:=wo.drew) HRo.out hb3 hgo);have i3:=HR3.out.is;have a3:=HR3.out.at;have d3:=HR3.out.cells;have o3:=(hb3.cell (p:=⟨rb,k*20+1,none⟩) hrbo).trans c1')
    refine hK.out _ _ ?_ (fun hHeld=>?_)
    ·exact⟨⟨⟨i3,a3⟩,d3⟩,o3⟩
    clear hK K
    refine tV 6 27 ?_
    (try simp only [Act.put,lA,lZ,lS])
    refine takeU 7 (some 28) rfl rfl (by kernel_rfl) (by kernel_rfl) (by kernel_rfl) (fun _ _ _ h=>h) (by assumption) ?_
    (try simp only [Act.put,lA,lZ,lS])
    refine takeU 8 (some 29) rfl rfl (by kernel_rfl) (by kernel_rfl) (by kernel_rfl) (fun _ _ _ h=>h) (by assumption) ?_
    (try simp only [Act.put,lA,lZ,lS])
    refine takeU 9 (some 30) rfl rfl (by kernel_rfl) (by kernel_rfl) (by kernel_rfl) (fun _ _ _ h=>h) (by assumption) ?_
    (try simp only [Act.put,lA,lZ,lS])
    refine takeU 10 (some 31) rfl rfl (by kernel_rfl) (by kernel_rfl) (by kernel_rfl) (fun _ _ _ h=>h) (by assumption) ?_
    (try simp only [Act.put,lA,lZ,lS])
    refine takeU 11 (some 32) rfl rfl (by kernel_rfl) (by kernel_rfl) (by kernel_rfl) (fun _ _ _ h=>h) (by assumption) ?_
    (try simp only [Act.put,lA,lZ,lS])
    refine takeU 12 (some 33) rfl rfl (by kernel_rfl) (by kernel_rfl) (by kernel_rfl) (fun _ _ _ h=>h) (by assumption) ?_
    (try simp only [Act.put,lA,lZ,lS])
    refine takeU 13 (some 34) rfl rfl (by kernel_rfl) (by kernel_rfl) (by kernel_rfl) (fun _ _ _ h=>h) (by assumption) ?_
    (try simp only [Act.put,lA,lZ,lS])
    refine takeU 14 (some 35) rfl rfl (by kernel_rfl) (by kernel_rfl) (by kernel_rfl) (fun _ _ _ h=>h) (by assumption) ?_
    (try simp only [Act.put,lA,lZ,lS])
    refine takeU 15 (some 36) rfl rfl (by kernel_rfl) (by kernel_rfl) (by kernel_rfl) (fun _ _ _ h=>h) (by assumption) ?_
    (try simp only [Act.put,lA,lZ,lS])
    refine takeU 16 (some 37) rfl rfl (by kernel_rfl) (by kernel_rfl) (by kernel_rfl) (fun _ _ _ h=>h) (by assumption) ?_
    (try simp only [Act.put,lA,lZ,lS])
    refine takeU 17 (some 38) rfl rfl (by kernel_rfl) (by kernel_rfl) (by kernel_rfl) (fun _ _ _ h=>h) (by assumption) ?_
    (try simp only [Act.put,lA,lZ,lS])
    refine takeU 18 (some 39) rfl rfl (by kernel_rfl) (by kernel_rfl) (by kernel_rfl) (fun _ _ _ h=>h) (by assumption) ?_
    (try simp only [Act.put,lA,lZ,lS])
    refine takeU 19 (some 40) rfl rfl (by kernel_rfl) (by kernel_rfl) (by kernel_rfl) (fun _ _ _ h=>h) (by assumption) ?_
    (try simp only [Act.put,lA,lZ,lS])
    refine takeU 20 (some 41) rfl rfl (by kernel_rfl) (by kernel_rfl) (by kernel_rfl) (fun _ _ _ h=>h) (by assumption) ?_
    (try simp only [Act.put,lA,lZ,lS])
    refine takeU 21 (some 42) rfl rfl (by kernel_rfl) (by kernel_rfl) (by kernel_rfl) (fun _ _ _ h=>h) (by assumption) ?_
    (try simp only [Act.put,lA,lZ,lS])
    refine tV 22 43 ?_
    (try simp only [Act.put,lA,lZ,lS])
    refine wpAnyH_done (by kernel_rfl) ?_ _
    have hbel3:=hbel.drew.trans (hb3.mono hbel.drew.size)
    clear d0 p0 q0 i0 a0 c1'
    go_wp2
    go_roundw
    case rel=>exact⟨k+1,by omega,by go_num,by rw [HSN.out,HALL.out,HS1.out];rfl,hbel3⟩
    case measure=>simp [intOf];omega
   ·rw [hpk] at HM1
    have HS1:=hide (show st k=c.le xo tg by rw [HSX.out,hpk];rfl)
    clear hpk
    go_wp2_with fail
    refine wp_region_held_drew (S:=(fun w'=>((partIs w' g q 37∧partAt w' g q 37=ordC n f)∧w'.cell? ⟨g,q+37,none⟩=some (.slice (some ⟨rb,0,none⟩) row.length cap))∧w'.cell? ⟨rb,k*20+1,none⟩=some (.int .i64 xo))) (by kernel_rfl) ?_ (fun hHeld=>?_)
    ·exact⟨⟨⟨i0,a0⟩,d0⟩,c1'⟩
    refine tV 0 21 ?_
    (try simp only [Act.put,lA,lZ,lS])
    refine tV 1 22 ?_
    (try simp only [Act.put,lA,lZ,lS])
    refine tV 2 23 ?_
    (try simp only [Act.put,lA,lZ,lS])
    refine tV 3 24 ?_
    (try simp only [Act.put,lA,lZ,lS])
    refine tV 4 25 ?_
    (try simp only [Act.put,lA,lZ,lS])
    refine wpAnyH_ready (rs:=[5]) (by kernel_rfl) (by simp) ?_
    refine AllReadyH.cons rfl (fun K hK=>?_) AllReadyH.nil
    go_simp
    go_wp2_with (go_at_call 115;refine (HM1.out).mono ?_;rintro e w3 ⟨rfl,hb3⟩;have HR3:=hide (PRowAt.below (w:=wo.drew) HRo.out hb3 hgo);have i3:=HR3.out.is;have a3:=HR3.out.at;have d3:=HR3.out.cells;have o3:=(hb3.cell (p:=⟨rb,k*20+1,none⟩) hrbo).trans c1')
    refine hK.out _ _ ?_ (fun hHeld=>?_)
    ·exact⟨⟨⟨i3,a3⟩,d3⟩,o3⟩
    clear hK K
    refine tV 6 27 ?_
    (try simp only [Act.put,lA,lZ,lS])
    refine tV 7 28 ?_
    (try simp only [Act.put,lA,lZ,lS])
    refine tV 8 29 ?_
    (try simp only [Act.put,lA,lZ,lS])
    refine tV 9 30 ?_
    (try simp only [Act.put,lA,lZ,lS])
    refine tW 10 31 (.agg (ordC n f)) ?_ ?_
    ·(intro o ho w hSw;obtain rfl:=Option.some.inj ho;clear ho;exact exec_load_ord rfl rfl hSw.1.1.1 hSw.1.1.2)
    (try simp only [Act.put,lA,lZ,lS])
    refine tV 11 32 ?_
    (try simp only [Act.put,lA,lZ,lS])
    refine tV 12 33 ?_
    (try simp only [Act.put,lA,lZ,lS])
    refine tV 13 34 ?_
    (try simp only [Act.put,lA,lZ,lS])
    refine tV 14 35 ?_
    (try simp only [Act.put,lA,lZ,lS])
    refine tV 15 36 ?_
    (try simp only [Act.put,lA,lZ,lS])
    refine tV 16 37 ?_
    (try simp only [Act.put,lA,lZ,lS])
    refine tV 17 38 ?_
    (try simp only [Act.put,lA,lZ,lS])
    refine tV 18 39 ?_
    (try simp only [Act.put,lA,lZ,lS])
    refine tV 19 40 ?_
    (try simp only [Act.put,lA,lZ,lS])
    refine wpAnyH_ready (rs:=[20]) (by kernel_rfl) (by simp) ?_
    refine AllReadyH.cons rfl (fun K hK=>?_) AllReadyH.nil
    go_simp
    go_wp2_with (go_at_call 113;refine (HQX.out _).mono ?_;rintro e w5 ⟨rfl,hb5⟩;have HR5:=hide (HR3.out.below hb5 HR3.out.lt);have i5:=HR5.out.is;have a5:=HR5.out.at;have d5:=HR5.out.cells;have o5:=(hb5.cell (p:=⟨rb,k*20+1,none⟩) (Nat.lt_of_lt_of_le hrbo hb3.size)).trans o3)
    refine hK.out _ _ ?_ (fun hHeld=>?_)
    ·exact⟨⟨⟨i5,a5⟩,d5⟩,o5⟩
    clear hK K
    refine tV 21 42 ?_
    (try simp only [Act.put,lA,lZ,lS])
    refine tV 22 43 ?_
    (try simp only [Act.put,lA,lZ,lS])
    refine wpAnyH_done (by kernel_rfl) ?_ _
    have hbel5:=(hbel.drew.trans (hb3.mono hbel.drew.size)).trans (hb5.mono (Nat.le_trans hbel.size hb3.size))
    clear d0 p0 q0 i0 a0 c1' i3 a3 d3 o3 i5 a5 d5 o5
    cases hle:c.le xo tg
    ·have HF:=hide (HSF.out (by rw [HS1.out,hle]))
     clear hle
     go_wp2
     go_ret
     exact⟨ret_bool (by rw [HF.out]),hbel5⟩
    ·rw [hle] at HS1
     clear hle
     go_wp2
     go_roundw
     case rel=>exact⟨k+1,by omega,by go_num,by rw [HSN.out,HALL.out,HS1.out];rfl,hbel5⟩
     case measure=>simp [intOf];omega
  ·obtain rfl:k=row.length:=by omega
   have hkc:decide ((row.length:Int)<(row.length:Int))=false:=by simp
   go_wp2
   go_ret
   exact⟨ret_bool (by rw [HALL.out]),hbel⟩
end Go.Proofs.YtgigkiocdiffjaaGreat
namespace Go.Proofs.YtgigkiocdiffjaaGreat
open Go.RowKit Veil
theorem Tryz.infoPCell:(Tryz.prog.info? 181).map (fun i=>(i.zero,i.size,i.bytes))=some (some (.agg (cellG 0 0 noB noL noB).toArray),20,160):=by kernel_rfl
theorem pcut_head {ao:Option Addr} {n cap k:Nat} (hs:∀ a,ao=some a→∃ rb,a=⟨rb,0,none⟩) (hk:k≤cap) (w:World):(Instr.slice 108 (.slice ao n cap) none (some (.int .i64 (k:Int))) none).run Tryz.prog w=.ok (.slice ao k cap) w:=by
 obtain⟨i,hi,hzz⟩:=Option.map_eq_some_iff.1 Tryz.infoPCell
 have hadd:(ao.map fun a=>a.add 0)=ao:=by
  cases ao with
  | none=>rfl
  | some a=>obtain⟨rb,rfl⟩:=hs a rfl;rfl
 have h0:(0:Int)≤(k:Int)∧(k:Int)≤(cap:Int):=by omega
 by_cases hc:cap=0
 ·simp [Instr.slice,run_underlying Tryz.underlying108,Instr.sliceBounds,Instr.sliceBound,asIntOf,h0,sizeOf,typeInfo,hi,hc]
  omega
 ·simp [Instr.slice,run_underlying Tryz.underlying108,Instr.sliceBounds,Instr.sliceBound,asIntOf,h0,sizeOf,typeInfo,hi,hc,hadd]
  exact fun h=>absurd h (by omega)
theorem pcut_tail {ao:Option Addr} {n cap k:Nat} (hk:k≤n) (w:World):(Instr.slice 108 (.slice ao n cap) (some (.int .i64 (k:Int))) none none).run Tryz.prog w=.ok (.slice (if cap=k then ao else ao.map (·.add (k*20))) (n-k) (cap-k)) w:=by
 obtain⟨i,hi,hzz⟩:=Option.map_eq_some_iff.1 Tryz.infoPCell
 simp only [Prod.mk.injEq] at hzz
 have h0:(0:Int)≤(k:Int)∧(k:Int)≤(n:Int):=by omega
 simp [Instr.slice,run_underlying Tryz.underlying108,Instr.sliceBounds,Instr.sliceBound,asIntOf,h0,sizeOf,typeInfo,hi,hzz.2.1]
 exact fun h=>absurd h (by omega)
theorem fill_cell (b n:Nat):Instr.fill (fun i=>some (i*20,20)) ((Array.range (1*20)).map ((Value.agg (cellG 0 0 noB noL noB).toArray).cells[· % (Value.agg (cellG 0 0 noB noL noB).toArray).cells.size]!)) [(0,.agg (cellG b n noB (fun _=>n) noB).toArray)]=some (cellG b n noB (fun _=>n) noB).toArray:=by kernel_rfl
theorem wpList_slice_cell {w:World} {ops:Array Oper} {rest:List Oper} {o:Oper} {a:Act} {Q:Exit→Act→World→Prop} (hgd:o.guard=none) (x:Operand) (b n:Nat) (ho:o.op=.buildSlice 108 1 #[(0,x)]) (hx:a.eval x=.agg (cellG b n noB (fun _=>n) noB).toArray)
  (h:wpList Tryz.prog ops Q rest (a.put o.dst (.slice (some ⟨w.heap.size,0,none⟩) 1 1)) (w.alloc (.cells (cellG b n noB (fun _=>n) noB).toArray 181))):wpList Tryz.prog ops Q (o :: rest) a w:=by
 obtain⟨i,hi,hzz⟩:=Option.map_eq_some_iff.1 Tryz.infoPCell
 simp only [Prod.mk.injEq] at hzz
 refine wpList_buildSlice hgd 108 181 1 #[(0,x)] ho _ i _ Tryz.underlying108 hi hzz.1 (by rw [hzz.2.1];decide) (by rw [hzz.2.1];decide) ?_ h
 rw [hzz.2.1]
 simp only [List.map_toArray,List.map_cons,List.map_nil,hx]
 exact fill_cell b n
def newC (s:ByteArray) (lv k:Nat):List RC:=(newTo s lv k).map (·.1)
theorem newC_length (s:ByteArray) (lv k:Nat):(newC s lv k).length=k:=by unfold newC;rw [List.length_map,newTo_length]
theorem newC_succ (s:ByteArray) (lv k:Nat) (h:k<s.size):newC s lv (k+1)=newC s lv k++[⟨s[k].toNat,lv,[]⟩]:=by unfold newC;rw [newTo_succ s lv k h,List.map_append];rfl
theorem newC_zero (s:ByteArray) (lv:Nat):newC s lv 0=[]:=rfl
def putC (row new:List RC) (k:Nat):List RC:=row.take k++new++row.drop k
theorem rwInsert_any (c:Cfg) (row:List RC) (g q n:Nat) (f:Nat→Nat→Bool) (pv:Value) (B lv at_:Nat) (text:ByteArray) (w:World) (hown:OwnL 181 20 (pcV c) w B pv row) (hr:PRowAt w g q n f pv) (hat:at_≤row.length) (htx:text.size≤1000000) (hlen:row.length≤1000000) :
  Calls Tryz.prog 58 #[.pointer (some ⟨g,q,none⟩),.int .i64 lv,.int .i64 at_,.string text] w fun e w'=>e=.returned (.tuple #[])∧∃ w6 v6,w'=w6.setCell ⟨g,q+37,none⟩ v6∧Below w.heap.size w w6∧OwnL 181 20 (pcV c) w6 w.heap.size v6 (putC row (newC text lv text.size) at_):=by
 obtain⟨ao,cap,hpv⟩:=hown.shape
 subst hpv
 obtain⟨hsn,hss⟩:=hown.src
 have hcapn:row.length≤cap:=by
  cases hra:ao with
  | none=>have:=(hsn hra).1;omega
  | some x=>obtain⟨_,_,_,h,_⟩:=hss x hra;exact h
 have HSN:=hide hsn
 have HSS:=hide hss
 have HROW:=hide hr
 have d0:=hr.cells
 have hgl:=hr.lt
 have HNC:=hide (fun (b:Nat) (w':World)=>newCell_any b lv w')
 have hsl1:∀ w',(Instr.slice 108 (.slice ao row.length cap) none (some (.int .i64 (at_:Int))) none).run Tryz.prog w'=.ok (.slice ao at_ cap) w':=fun w'=>
  pcut_head (fun x hx=>by obtain⟨rb,h,_⟩:=HSS.out x hx;exact⟨rb,h⟩) (by omega) w'
 have hsl2:∀ w',(Instr.slice 108 (.slice ao row.length cap) (some (.int .i64 (at_:Int))) none none).run Tryz.prog w'=.ok (.slice (if cap=at_ then ao else ao.map (·.add (at_*20))) (row.length-at_) (cap-at_)) w':=fun w'=>pcut_tail hat w'
 have HONE:=hide (show ∀ (x:RC),∀ u,u ∈ pcV c x→u.oneCell'=true from fun x u hu=>cellG_one _ _ _ _ _ u hu)
 have HC1:=hide (show ∀ x,ao=some x→∀ j u,((row.take at_).flatMap (pcV c))[j]?=some u→w.cell? (x.add j)=some u from fun x hx j u hu=>by
  obtain⟨rb,rfl,_,_,hc⟩:=HSS.out x hx
  have:=hc j u (flat_take hu)
  have hadd:(⟨rb,0,none⟩:Addr).add j=⟨rb,j,none⟩:=by unfold Addr.add;split <;> simp_all
  rw [hadd];exact this)
 generalize hso:(if cap=at_ then ao else ao.map (·.add (at_*20)))=so2 at *
 have HC2:=hide (show ∀ (w':World),Below w.heap.size w w'→∀ x,so2=some x→∀ j u,((row.drop at_).flatMap (pcV c))[j]?=some u→w'.cell? (x.add j)=some u from fun w' hb' x hx j u hu=>by
  by_cases hcb:cap=at_
  ·have:row.drop at_=[]:=List.drop_eq_nil_of_le (by omega)
   rw [this] at hu;simp at hu
  ·rw [if_neg hcb] at hso
   cases hra:ao with
   | none=>rw [hra] at hso;rw [← hso] at hx;cases hx
   | some y=>
    obtain⟨rb,rfl,hrb,_,hc⟩:=HSS.out y hra
    rw [hra] at hso
    rw [← hso] at hx
    obtain rfl:=Option.some.inj hx
    have h1:=hc _ u (flat_drop (pcV_length c) hat hu)
    have hadd:((⟨rb,0,none⟩:Addr).add (at_*20)).add j=⟨rb,at_*20+j,none⟩:=by rw [Addr.add_mid,Addr.add_mid,Nat.zero_add]
    rw [hadd]
    exact (hb'.cell (p:=⟨rb,at_*20+j,none⟩) hrb).trans h1)
 have HS2:=hide (show so2=none→row.length-at_=0∧cap-at_=0 from fun h=>by
  by_cases hcb:cap=at_
  ·omega
  ·rw [if_neg hcb,h] at hso
   have:=HSN.out (by simpa using hso)
   omega)
 have HTL:=hide (show (row.take at_).length=at_ from by rw [List.length_take];exact Nat.min_eq_left hat)
 have HBY:=hide (show (([]:List RC).length+at_)*160≤140737488355328 from by simp only [List.length_nil];omega)
 have ha0:decide ((at_:Int)<0)=false:=by simp
 have ha1:(at_:Int)≤(row.length:Int):=by omega
 have ha2:decide ((row.length:Int)<(at_:Int))=false:=by simp;omega
 clear hsn hss hso hown hr
 go_enter Tryz.func58,Tryz.ntmps58
 go_wp2_with (at_builtin;refine wpList_pushes rfl (.tmp 21) (.tmp 27) 108 rfl (.agg (cellG 0 0 noB noL noB).toArray) 160 Tryz.underlying108 Tryz.infoPCell rfl (by decide) rfl (OwnL.nil 181 20 (pcV c) w w.heap.size) ao at_ cap (row.take at_) rfl HTL.out (fun h=>by have:=HSN.out h;omega) HC1.out (pcV_length c) (fun p _=>HONE.out p) HBY.out (by decide) (Nat.le_refl _) ?_;intro v4 w4 hown4 hgrow4 hat4)
 have hb4:Below w.heap.size w w4:=below_of_grown hgrow4 (fun b hb=>by cases hb) (Nat.le_refl _)
 have HV4:=hide hown4
 clear hown4 hgrow4 hat4
 go_loopw [8,9] (fun vr i wr=>∃ k:Nat,k≤text.size∧i=.int .i64 k∧OwnL 181 20 (pcV c) wr w.heap.size vr (row.take at_++newC text lv k)∧Below w.heap.size w wr) (fun _ i _=>text.size-(intOf i).toNat)
 case atStart=>exact⟨0,Nat.zero_le _,rfl,by rw [newC_zero,List.append_nil];exact HV4.out,hb4⟩
 case round=>
  clear hb4 HV4
  obtain⟨wo,rfl⟩:∃ x,x=wr:=⟨_,rfl⟩
  obtain⟨k,hk,rfl,hvr,hbo⟩:=hrel
  have HVR:=hide hvr
  clear hvr
  have htl:(row.take at_++newC text lv k).length≤row.length+k:=by rw [List.length_append,newC_length,List.length_take];omega
  by_cases hlt:k<text.size
  ·have hki:(k:Int)<(text.size:Int):=by omega
   have HNS:=hide (newC_succ text lv k hlt)
   have HN1:=hide (HNC.out text[k].toNat wo)
   generalize hT:row.take at_++newC text lv k=T at *
   clear d0
   go_wp2_with fail
   refine (HN1.out).mono ?_
   rintro e w5 ⟨rfl,hb5⟩
   have hbo5:=hbo.trans (hb5.mono hbo.size)
   have hbA:Below w5.heap.size w5 (w5.alloc (.cells (cellG text[k].toNat lv noB (fun _=>lv) noB).toArray 181)):=below_box w5 _
   have hboA:Below w.heap.size w (w5.alloc (.cells (cellG text[k].toNat lv noB (fun _=>lv) noB).toArray 181)):=hbo5.alloc hbo5.size _
   have HVRA:=hide ((HVR.out.below hb5).below hbA)
   have HNA:=hide (Go.heap_alloc_new w5 (.cells (cellG text[k].toNat lv noB (fun _=>lv) noB).toArray 181))
   go_wp2_with (first|(refine wpList_slice_cell rfl (.tmp 40) text[k].toNat lv rfl rfl ?_)|(at_builtin;refine wpList_push rfl (.tmp 35) (.tmp 41) 108 rfl (.agg (cellG 0 0 noB noL noB).toArray) 160 Tryz.underlying108 Tryz.infoPCell rfl (by decide) rfl HVRA.out w5.heap.size 1 ⟨text[k].toNat,lv,[]⟩ rfl 181 (0,0) HNA.out (pcV_length c _) (HONE.out _) (by omega) (by decide) hboA.size (w5.heap.size+1) (by simp) ?_;intro g6 cap6 w6 hown6 hgrow6 hat6 hlt6))
   have hb6:=hboA.trans (below_of_grown hgrow6 (fun b hb=>(HVRA.out.lt hb).1) hboA.size)
   go_roundw
   case rel=>exact⟨k+1,by omega,by go_num,by rw [HNS.out,← List.append_assoc,hT];exact hown6,hb6⟩
   case measure=>simp [intOf];omega
  ·obtain rfl:k=text.size:=by omega
   have hkc:decide ((text.size:Int)<(text.size:Int))=false:=by simp
   have d1:=(HROW.out.below hbo hgl).cells
   have HPI:=hide (show putC row (newC text lv text.size) at_=row.take at_++newC text lv text.size++row.drop at_ from rfl)
   have hnl:=newC_length text lv text.size
   generalize hT:row.take at_++newC text lv text.size=T at *
   have HDO:=hide (show row.length-at_=(row.drop at_).length by simp)
   clear d0
   go_wp2_with (at_builtin;first|(refine wpList_pushes rfl (.tmp 43) (.tmp 49) 108 rfl (.agg (cellG 0 0 noB noL noB).toArray) 160 Tryz.underlying108 Tryz.infoPCell rfl (by decide) rfl HVR.out so2 (row.length-at_) (cap-at_) (row.drop at_) rfl HDO.out.symm HS2.out (HC2.out _ hbo) (pcV_length c) (fun p _=>HONE.out p) (by omega) (by decide) hbo.size ?_;intro v6 w6 hown6 hgrow6 hat6;have hb6:Below w.heap.size w w6:=hbo.trans (below_of_grown hgrow6 (fun b hb=>(HVR.out.lt hb).1) hbo.size);obtain⟨ao6,cap6,hv6⟩:=hown6.shape;subst hv6;generalize hN6:(T++row.drop at_).length=N6 at *;have d6:=(HROW.out.below hb6 hgl).cells;have f6:=(HROW.out.below hb6 hgl).frozen (q+37)))
   go_end0
   exact⟨rfl,w6,_,rfl,hb6,by rw [HPI.out];exact hown6⟩
end Go.Proofs.YtgigkiocdiffjaaGreat
