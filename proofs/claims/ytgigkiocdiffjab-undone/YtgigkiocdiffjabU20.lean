import Derived.Test.YtgigkiocdiffjabU19
set_option maxRecDepth 100000
set_option maxHeartbeats 16000000
namespace Go.Proofs.Ytgigkiocdiffjab
open Go.RowKit Veil
theorem released_any (b o:Nat) (G:Nat→Bool) (L:Nat→Nat) (F:Nat→Bool) (g q n:Nat) (f:Nat→Nat→Bool) (pv:Value) (lv:Nat) (w:World) (hr:PRowAt w g q n f pv) (hn:n≤6) (hq:0<q) :
  Calls Try.prog 82 #[.pointer (some ⟨g,q,none⟩),.agg (cellG b o G L F).toArray,.int .i64 lv] w fun e w'=>e=.returned (.agg (cellG b o G (upL (leD n f lv) (fun _=>o) L 6) (upK (leD n f lv) true F 6)).toArray)∧Below w.heap.size w w':=by
 have HA1:=hide (cell_new w b o G L F)
 have hb1:=below_box w (.cells (cellG b o G L F).toArray 140)
 have HA2:=hide (cell_new (w.alloc (.cells (cellG b o G L F).toArray 140)) 0 0 noB noL noB)
 have hs1:(w.alloc (.cells (cellG b o G L F).toArray 140)).heap.size=w.heap.size+1:=by simp
 rw [hs1] at HA2
 have hb2:Below w.heap.size w ((w.alloc (.cells (cellG b o G L F).toArray 140)).alloc (.cells (cellG 0 0 noB noL noB).toArray 140)):=hb1.alloc hb1.size _
 have HA3:Hid (CellAt ((w.alloc (.cells (cellG b o G L F).toArray 140)).alloc (.cells (cellG 0 0 noB noL noB).toArray 140)) w.heap.size b o G L F):=row_alloc' HA1.out
 have HLQ:=hide (fun (d:Nat) (w':World)=>oleq_any n f lv d w' hn)
 have HR:=hide hr
 have hgl:=hr.lt
 clear hb1 hs1 hr
 go_enter Try.func82,Try.ntmps82
 go_wp2_with (first|(refine wpList_alloc_cell rfl rfl ?_))
 go_loopw [7] (fun i wr=>∃ k:Nat,k≤6∧i=.int .i64 k∧CellAt wr w.heap.size b o G (upL (leD n f lv) (fun _=>o) L k) (upK (leD n f lv) true F k)∧CellAt wr (w.heap.size+1) 0 0 noB noL noB∧Below w.heap.size w wr) (fun i _=>6-(intOf i).toNat)
 case atStart=>exact⟨0,by omega,rfl,by rw [upL_zero,upK_zero];exact HA3.out,HA2.out,hb2⟩
 case round=>
  clear HA1 HA2 HA3 hb2
  obtain⟨wo,rfl⟩:∃ x,x=wr:=⟨_,rfl⟩
  obtain⟨k,hk,rfl,hc1,hc2,hbel⟩:=hrel
  have H1:=hide hc1
  have H2:=hide hc2
  by_cases hlt:k<6
  ·have hki:(k:Int)<6:=by omega
   have HRo:=hide (HR.out.below hbel hgl)
   have i0:=HRo.out.is
   have a0:=HRo.out.at
   have HQ1:=hide (HLQ.out k wo)
   have HP:=hide (show leD n f lv k=leO n f lv k from rfl)
   clear hc1 hc2
   go_wp2_with fail
   refine (HQ1.out).mono ?_
   rintro e w3 ⟨rfl,hb3⟩
   have hbel3:=hbel.trans (hb3.mono hbel.size)
   have H1c:=hide (H1.out.below hb3 H1.out.lt)
   have H2c:=hide (H2.out.below hb3 H2.out.lt)
   have HRc:=hide (HR.out.below hbel3 hgl)
   clear i0 a0 hb3 H1 H2
   cases hle:leO n f lv k
   ·rw [hle] at HP
    have HNO1:=hide (upL_no (y:=fun _=>o) (L:=L) HP.out)
    have HNO2:=hide (upK_no (x:=true) (G:=F) HP.out)
    go_wp2
    go_roundw
    case rel=>exact⟨k+1,by omega,by go_num,by rw [HNO1.out,HNO2.out];exact H1c.out,H2c.out,hbel3⟩
    case measure=>simp [intOf];omega
   ·rw [hle] at HP
    have o1:=H1c.out.origin
    have l1:=H1c.out.lab k hlt
    have f1:=H1c.out.frozen (2+k*3+1)
    have HS1:Hid (CellAt (w3.setCell ⟨w.heap.size,2+k*3+1,none⟩ (.int .i64 o)) w.heap.size b o G (upL (leD n f lv) (fun _=>o) L (k+1)) (upK (leD n f lv) true F k)):=H1c.out.set (j:=1) hlt (by omega) (by rw [upL_yes HP.out];rfl) (fun i _ hne=>⟨rfl,upL_other hne,rfl⟩)
    have HS2:Hid (CellAt (w3.setCell ⟨w.heap.size,2+k*3+1,none⟩ (.int .i64 o)) (w.heap.size+1) 0 0 noB noL noB):=row_other H2c.out (by omega)
    have hbS:Below w.heap.size w (w3.setCell ⟨w.heap.size,2+k*3+1,none⟩ (.int .i64 o)):=hbel3.setCell (by dsimp only;omega) _
    have l2:=HS1.out.free k hlt
    have f2:=HS1.out.frozen (2+k*3+2)
    have HT1:Hid (CellAt ((w3.setCell ⟨w.heap.size,2+k*3+1,none⟩ (.int .i64 o)).setCell ⟨w.heap.size,2+k*3+2,none⟩ (.bool true)) w.heap.size b o G (upL (leD n f lv) (fun _=>o) L (k+1)) (upK (leD n f lv) true F (k+1))):=HS1.out.set (j:=2) hlt (by omega) (by rw [upK_yes HP.out];rfl) (fun i _ hne=>⟨rfl,rfl,upK_other hne⟩)
    have HT2:Hid (CellAt ((w3.setCell ⟨w.heap.size,2+k*3+1,none⟩ (.int .i64 o)).setCell ⟨w.heap.size,2+k*3+2,none⟩ (.bool true)) (w.heap.size+1) 0 0 noB noL noB):=row_other HS2.out (by omega)
    have hbT:Below w.heap.size w ((w3.setCell ⟨w.heap.size,2+k*3+1,none⟩ (.int .i64 o)).setCell ⟨w.heap.size,2+k*3+2,none⟩ (.bool true)):=hbS.setCell (by dsimp only;omega) _
    go_wp2
    go_roundw
    case rel=>exact⟨k+1,by omega,by go_num,HT1.out,HT2.out,hbT⟩
    case measure=>simp [intOf];omega
  ·obtain rfl:k=6:=by omega
   have i1:=hc1.is
   have a1:=hc1.at
   have i2:=hc2.is
   have k1:=cellG_ok b o G (upL (leD n f lv) (fun _=>o) L 6) (upK (leD n f lv) true F 6)
   have HS:=hide (hc2.store (cellG b o G (upL (leD n f lv) (fun _=>o) L 6) (upK (leD n f lv) true F 6)) (cellG_length ..))
   have hbS:=below_setCells hbel (show w.heap.size≤w.heap.size+1 by omega) 0 (cellG b o G (upL (leD n f lv) (fun _=>o) L 6) (upK (leD n f lv) true F 6))
   clear hc1 hc2
   go_wp2
   exact bodyPost_ret (res_cell Try.results82 _ _ (w.heap.size+1) _ (cellG_length ..) (by simp) HS.out) rfl ⟨rfl,hbS⟩
def joinN (n:Nat) (f:Nat→Nat→Bool) (lb a:Nat):Nat:=(posI (leastO n f a lb)).toNat
theorem joinN_pos (n:Nat) (f:Nat→Nat→Bool) (lb a:Nat):posI (leastO n f a lb)=(joinN n f lb a:Nat):=by
 unfold joinN posI
 split <;> omega
theorem PRowAt.other {w:World} {g q n:Nat} {f:Nat→Nat→Bool} {pv v:Value} {g' j:Nat} (h:PRowAt w g q n f pv) (hne:g≠g'):PRowAt (w.setCell ⟨g',j,none⟩ v) g q n f pv:=by
 obtain⟨cs,t,h1,h2⟩:=h
 exact⟨cs,t,row_other h1 hne,h2⟩
theorem raised_any (b o:Nat) (G:Nat→Bool) (L:Nat→Nat) (F:Nat→Bool) (g q n:Nat) (f:Nat→Nat→Bool) (pv:Value) (lv lb:Nat) (w:World) (hr:PRowAt w g q n f pv) (hn:n≤6) (hq:0<q) :
  Calls Try.prog 80 #[.pointer (some ⟨g,q,none⟩),.agg (cellG b o G L F).toArray,.int .i64 lv,.int .i64 lb] w fun e w'=>e=.returned (.agg (cellG b o G (upL (leD n f lv) (fun d=>joinN n f lb (L d)) L 6) (upK (leD n f lv) false F 6)).toArray)∧Below w.heap.size w w':=by
 have HA1:=hide (cell_new w b o G L F)
 have hb1:=below_box w (.cells (cellG b o G L F).toArray 140)
 have HA2:=hide (cell_new (w.alloc (.cells (cellG b o G L F).toArray 140)) 0 0 noB noL noB)
 have hs1:(w.alloc (.cells (cellG b o G L F).toArray 140)).heap.size=w.heap.size+1:=by simp
 rw [hs1] at HA2
 have hb2:Below w.heap.size w ((w.alloc (.cells (cellG b o G L F).toArray 140)).alloc (.cells (cellG 0 0 noB noL noB).toArray 140)):=hb1.alloc hb1.size _
 have HA3:Hid (CellAt ((w.alloc (.cells (cellG b o G L F).toArray 140)).alloc (.cells (cellG 0 0 noB noL noB).toArray 140)) w.heap.size b o G L F):=row_alloc' HA1.out
 have HLQ:=hide (fun (d:Nat) (w':World)=>oleq_any n f lv d w' hn)
 have HJN:=hide (fun (d:Nat) (w':World)=>show Calls Try.prog 99 #[.agg (ordC n f),.int .i64 (L d),.int .i64 lb] w' fun e w''=>e=.returned (.int .i64 (joinN n f lb (L d)))∧Below w'.heap.size w' w'' from (oJoin_any n f (L d) lb w' hn).mono fun e w'' ⟨h1,h2⟩=>⟨by rw [h1,joinN_pos],h2⟩)
 have HR:=hide hr
 have hgl:=hr.lt
 clear hb1 hs1 hr
 go_enter Try.func80,Try.ntmps80
 go_wp2_with (first|(refine wpList_alloc_cell rfl rfl ?_))
 go_loopw [9] (fun i wr=>∃ k:Nat,k≤6∧i=.int .i64 k∧CellAt wr w.heap.size b o G (upL (leD n f lv) (fun d=>joinN n f lb (L d)) L k) (upK (leD n f lv) false F k)∧CellAt wr (w.heap.size+1) 0 0 noB noL noB∧Below w.heap.size w wr) (fun i _=>6-(intOf i).toNat)
 case atStart=>exact⟨0,by omega,rfl,by rw [upL_zero,upK_zero];exact HA3.out,HA2.out,hb2⟩
 case round=>
  clear HA1 HA2 HA3 hb2
  obtain⟨wo,rfl⟩:∃ x,x=wr:=⟨_,rfl⟩
  obtain⟨k,hk,rfl,hc1,hc2,hbel⟩:=hrel
  have H1:=hide hc1
  have H2:=hide hc2
  by_cases hlt:k<6
  ·have hki:(k:Int)<6:=by omega
   have HRo:=hide (HR.out.below hbel hgl)
   have i0:=HRo.out.is
   have a0:=HRo.out.at
   have HQ1:=hide (HLQ.out k wo)
   have HP:=hide (show leD n f lv k=leO n f lv k from rfl)
   clear hc1 hc2
   go_wp2_with fail
   refine (HQ1.out).mono ?_
   rintro e w3 ⟨rfl,hb3⟩
   have hbel3:=hbel.trans (hb3.mono hbel.size)
   have H1c:=hide (H1.out.below hb3 H1.out.lt)
   have H2c:=hide (H2.out.below hb3 H2.out.lt)
   have HRc:=hide (HR.out.below hbel3 hgl)
   clear i0 a0 hb3 H1 H2
   cases hle:leO n f lv k
   ·rw [hle] at HP
    have HNO1:=hide (upL_no (y:=fun d=>joinN n f lb (L d)) (L:=L) HP.out)
    have HNO2:=hide (upK_no (x:=false) (G:=F) HP.out)
    go_wp2
    go_roundw
    case rel=>exact⟨k+1,by omega,by go_num,by rw [HNO1.out,HNO2.out];exact H1c.out,H2c.out,hbel3⟩
    case measure=>simp [intOf];omega
   ·rw [hle] at HP
    have l0:w3.cell? ⟨w.heap.size,2+k*3+1,none⟩=some (.int .i64 (L k)):=by have:=H1c.out.lab k hlt;rwa [upL_at] at this
    have i3:=HRc.out.is
    have a3:=HRc.out.at
    have HJ1:=hide (HJN.out k w3.drew)
    have hl3:=HRc.out.lt
    have hc3:=H1c.out.lt
    generalize hLk:L k=lk at *
    have HLK:=hide hLk
    clear hLk
    go_wp2_with fail
    refine wp_region_held_drew (S:=(fun w'=>partIs w' g q 37∧partAt w' g q 37=ordC n f)) (by kernel_rfl) ?_ (fun hHeld=>?_)
    ·exact⟨i3,a3⟩
    refine tV 0 21 ?_
    (try simp only [Act.put,lA,lZ,lS])
    refine tV 1 22 ?_
    (try simp only [Act.put,lA,lZ,lS])
    refine tV 2 23 ?_
    (try simp only [Act.put,lA,lZ,lS])
    refine tV 3 24 ?_
    (try simp only [Act.put,lA,lZ,lS])
    refine tW 4 25 (.agg (ordC n f)) ?_ ?_
    ·(intro o ho w hSw;obtain rfl:=Option.some.inj ho;clear ho;exact exec_load_ord rfl rfl hSw.1 hSw.2)
    (try simp only [Act.put,lA,lZ,lS])
    refine tV 5 26 ?_
    (try simp only [Act.put,lA,lZ,lS])
    refine tV 6 27 ?_
    (try simp only [Act.put,lA,lZ,lS])
    refine tV 7 28 ?_
    (try simp only [Act.put,lA,lZ,lS])
    refine tV 8 29 ?_
    (try simp only [Act.put,lA,lZ,lS])
    refine tV 10 31 ?_
    (try simp only [Act.put,lA,lZ,lS])
    refine tV 12 33 ?_
    (try simp only [Act.put,lA,lZ,lS])
    refine wpAnyH_ready (rs:=[9]) (by kernel_rfl) (by simp) ?_
    refine AllReadyH.cons rfl (fun K hK=>?_) AllReadyH.nil
    go_simp
    refine hK.out _ _ ?_ (fun hHeld=>?_)
    ·exact⟨i3,a3⟩
    clear hK K
    refine wpAnyH_ready (rs:=[11]) (by kernel_rfl) (by simp) ?_
    refine AllReadyH.cons rfl (fun K hK=>?_) AllReadyH.nil
    go_simp
    go_wp2_with (go_at_call 99;refine (HJ1.out).mono ?_;rintro e w5 ⟨rfl,hb5⟩;have HR5:=hide (PRowAt.below (w:=w3.drew) HRc.out hb5 hl3);have i5:=HR5.out.is;have a5:=HR5.out.at;have H1d:=hide (CellAt.below (w:=w3.drew) H1c.out hb5 hc3);have H2d:=hide (CellAt.below (w:=w3.drew) H2c.out hb5 H2c.out.lt);have l5:=H1d.out.lab k hlt;have f5:=H1d.out.frozen (2+k*3+1);have HS1:Hid (CellAt (w5.setCell ⟨w.heap.size,2+k*3+1,none⟩ (.int .i64 (joinN n f lb lk))) w.heap.size b o G (upL (leD n f lv) (fun d=>joinN n f lb (L d)) L (k+1)) (upK (leD n f lv) false F k)):=H1d.out.set (j:=1) hlt (by omega) (by rw [upL_yes HP.out,HLK.out];rfl) (fun i _ hne=>⟨rfl,upL_other hne,rfl⟩);have HS2:Hid (CellAt (w5.setCell ⟨w.heap.size,2+k*3+1,none⟩ (.int .i64 (joinN n f lb lk))) (w.heap.size+1) 0 0 noB noL noB):=row_other H2d.out (by omega);have HRS:=hide (HR5.out.other (v:=.int .i64 (joinN n f lb lk)) (j:=2+k*3+1) (show g≠w.heap.size by omega));have iS:=HRS.out.is;have aS:=HRS.out.at)
    refine hK.out _ _ ?_ (fun hHeld=>?_)
    ·exact⟨i5,a5⟩
    clear hK K
    refine tV 13 34 ?_
    (try simp only [Act.put,lA,lZ,lS])
    refine tV 14 35 ?_
    (try simp only [Act.put,lA,lZ,lS])
    refine wpAnyH_ready (rs:=[15]) (by kernel_rfl) (by simp) ?_
    refine AllReadyH.cons rfl (fun K hK=>?_) AllReadyH.nil
    go_simp
    refine hK.out _ _ ?_ (fun hHeld=>?_)
    ·exact⟨iS,aS⟩
    clear hK K
    refine wpAnyH_done (by kernel_rfl) ?_ _
    have hbel5:=hbel3.drew.trans (hb5.mono hbel3.drew.size)
    have HT1:Hid (CellAt ((w5.setCell ⟨w.heap.size,2+k*3+1,none⟩ (.int .i64 (joinN n f lb lk))).setCell ⟨w.heap.size,2+k*3+2,none⟩ (.bool false)) w.heap.size b o G (upL (leD n f lv) (fun d=>joinN n f lb (L d)) L (k+1)) (upK (leD n f lv) false F (k+1))):=HS1.out.set (j:=2) hlt (by omega) (by rw [upK_yes HP.out];rfl) (fun i _ hne=>⟨rfl,rfl,upK_other hne⟩)
    have HT2:Hid (CellAt ((w5.setCell ⟨w.heap.size,2+k*3+1,none⟩ (.int .i64 (joinN n f lb lk))).setCell ⟨w.heap.size,2+k*3+2,none⟩ (.bool false)) (w.heap.size+1) 0 0 noB noL noB):=row_other HS2.out (by omega)
    have hbT:Below w.heap.size w ((w5.setCell ⟨w.heap.size,2+k*3+1,none⟩ (.int .i64 (joinN n f lb lk))).setCell ⟨w.heap.size,2+k*3+2,none⟩ (.bool false)):=(hbel5.setCell (by dsimp only;omega) _).setCell (by dsimp only;omega) _
    have l2:=HS1.out.free k hlt
    have f2:=HS1.out.frozen (2+k*3+2)
    clear l5 f5 i5 a5 iS aS i3 a3 l0
    go_wp2
    go_roundw
    case rel=>exact⟨k+1,by omega,by go_num,HT1.out,HT2.out,hbT⟩
    case measure=>simp [intOf];omega
  ·obtain rfl:k=6:=by omega
   have i1:=hc1.is
   have a1:=hc1.at
   have i2:=hc2.is
   have k1:=cellG_ok b o G (upL (leD n f lv) (fun d=>joinN n f lb (L d)) L 6) (upK (leD n f lv) false F 6)
   have HS:=hide (hc2.store (cellG b o G (upL (leD n f lv) (fun d=>joinN n f lb (L d)) L 6) (upK (leD n f lv) false F 6)) (cellG_length ..))
   have hbS:=below_setCells hbel (show w.heap.size≤w.heap.size+1 by omega) 0 (cellG b o G (upL (leD n f lv) (fun d=>joinN n f lb (L d)) L 6) (upK (leD n f lv) false F 6))
   clear hc1 hc2
   go_wp2
   exact bodyPost_ret (res_cell Try.results80 _ _ (w.heap.size+1) _ (cellG_length ..) (by simp) HS.out) rfl ⟨rfl,hbS⟩
end Go.Proofs.Ytgigkiocdiffjab
namespace Go.Proofs.Ytgigkiocdiffjab
open Go.RowKit Veil
def goneD (c:Cfg) (x:RC) (d:Nat):Bool:=x.marks.any (goneB c d)
def labD (c:Cfg) (x:RC) (d:Nat):Nat:=(seenF c x d).1
def freeD (c:Cfg) (x:RC) (d:Nat):Bool:=(seenF c x d).2
def pcV (c:Cfg) (x:RC):List Value:=cellG x.b x.origin (goneD c x) (labD c x) (freeD c x)
theorem pcV_length (c:Cfg) (x:RC):(pcV c x).length=20:=cellG_length ..
theorem le_past {c:Cfg} (a d:Nat) (hd:c.n≤d):c.le a d=false:=by
 unfold Cfg.le leB
 have:(roundsL c.edges c.n (startL c.n a)).length=c.n:=by rw [roundsL_length];simp [startL]
 simp only [Int.toNat_natCast]
 rw [List.getD,List.getElem?_eq_none (by omega)];rfl
theorem leD_le {c:Cfg} (hl:labelsB c=true) (a d:Nat) (ha:a<c.n):leD c.n (tT c) a d=c.le a d:=by
 unfold leD
 by_cases hd:d<c.n
 ·exact leO_le hl a d ha hd
 ·rw [le_past a d (by omega)]
  unfold leO
  have:okL c.n d=false:=by simp [okL];omega
  rw [this];simp
theorem seenF_marked (c:Cfg) (x:RC) (m:Mk) (d:Nat):seenF c (marked m x) d=seenS c x.origin d (seenF c x d) m:=by
 unfold seenF marked;rw [List.foldl_append];rfl
theorem goneD_marked (c:Cfg) (x:RC) (m:Mk) (d:Nat):goneD c (marked m x) d=(goneD c x d || goneB c d m):=by
 unfold goneD marked;rw [List.any_append];simp
theorem pcV_deleted {c:Cfg} (hl:labelsB c=true) (x:RC) (lv lb:Nat) (h:lv<c.n):cellG x.b x.origin (upK (leD c.n (tT c) lv) true (goneD c x) 6) (labD c x) (freeD c x)=pcV c (marked ⟨2,lv,lb⟩ x):=by
 refine cellG_congr _ _ (fun d hd=>?_)
 have hs:seenF c (marked ⟨2,lv,lb⟩ x) d=seenF c x d:=by
  rw [seenF_marked];unfold seenS;cases c.le lv d <;> rfl
 refine⟨?_,by unfold labD;rw [hs],by unfold freeD;rw [hs]⟩
 rw [goneD_marked]
 unfold upK goneB
 rw [leD_le hl lv d h]
 simp only [hd,decide_true,Bool.true_and,beq_self_eq_true]
 cases c.le lv d <;> simp
theorem pcV_released {c:Cfg} (hl:labelsB c=true) (x:RC) (lv lb:Nat) (h:lv<c.n):cellG x.b x.origin (goneD c x) (upL (leD c.n (tT c) lv) (fun _=>x.origin) (labD c x) 6) (upK (leD c.n (tT c) lv) true (freeD c x) 6)=pcV c (marked ⟨4,lv,lb⟩ x):=by
 refine cellG_congr _ _ (fun d hd=>?_)
 have hs:seenF c (marked ⟨4,lv,lb⟩ x) d=bif c.le lv d then (x.origin,true) else seenF c x d:=by
  rw [seenF_marked];unfold seenS;cases c.le lv d <;> rfl
 refine⟨?_,?_,?_⟩
 ·rw [goneD_marked];unfold goneB;simp
 ·unfold labD upL;rw [hs,leD_le hl lv d h]
  simp only [hd,decide_true,Bool.true_and]
  cases c.le lv d <;> rfl
 ·unfold freeD upK;rw [hs,leD_le hl lv d h]
  simp only [hd,decide_true,Bool.true_and]
  cases c.le lv d <;> rfl
theorem joinN_join {c:Cfg} (hl:labelsB c=true) (lb a:Nat) (hlb:lb<c.n) (ha:a<c.n):joinN c.n (tT c) lb a=(c.join a lb).toNat:=by
 unfold joinN
 rw [leastO_join hl a lb ha hlb]
 unfold posI
 split <;> omega
theorem pcV_raised {c:Cfg} (hl:labelsB c=true) (hlat:¬ c.noLat) (x:RC) (hx:RCOk c x) (lv lb:Nat) (h:lv<c.n) (hb:lb<c.n):cellG x.b x.origin (goneD c x) (upL (leD c.n (tT c) lv) (fun d=>joinN c.n (tT c) lb (labD c x d)) (labD c x) 6) (upK (leD c.n (tT c) lv) false (freeD c x) 6)=pcV c (marked ⟨3,lv,lb⟩ x):=by
 refine cellG_congr _ _ (fun d hd=>?_)
 have hs:seenF c (marked ⟨3,lv,lb⟩ x) d=bif c.le lv d then ((c.join (seenF c x d).1 lb).toNat,false) else seenF c x d:=by
  rw [seenF_marked];unfold seenS;cases c.le lv d <;> rfl
 have hlt:=seenF_lt hlat hx d
 refine⟨?_,?_,?_⟩
 ·rw [goneD_marked];unfold goneB;simp
 ·unfold labD upL;rw [hs,leD_le hl lv d h]
  simp only [hd,decide_true,Bool.true_and]
  cases c.le lv d
  ·rfl
  ·simp only [cond_true];exact joinN_join hl lb _ hb hlt
 ·unfold freeD upK;rw [hs,leD_le hl lv d h]
  simp only [hd,decide_true,Bool.true_and]
  cases c.le lv d <;> rfl
theorem thereP_there {c:Cfg} (hl:labelsB c=true) (x:RC) (hx:RCOk c x) (d:Nat):thereP c.n (tT c) x.origin (goneD c x) d=thereB c x d:=by
 unfold thereP thereB goneD
 have:=leD_le hl x.origin d hx.origin
 unfold leD at this
 rw [this,Bool.and_comm]
section
variable {α:Type} {e:TypeId} {sz:Nat} {f:α→List Value} {w:World} {B:Nat} {v:Value} {l:List α}
theorem OwnL.part (hf:∀ a,(f a).length=sz) (h:OwnL e sz f w B v l) {g:Nat} (hg:v.ownBlock=some g) {i:Nat} {a:α} (hi:l[i]?=some a):partIs w g (i*sz) sz∧partAt w g (i*sz) sz=(f a).toArray:=by
 obtain⟨cap,cur,hv,hr,hs,hl,hm,ht,hB⟩:=h.row hg
 have hil:i<l.length:=(List.getElem?_eq_some_iff.1 hi).1
 have hle:i*sz+sz≤cur.size:=by
  rw [hs]
  have:(i+1)*sz≤cap*sz:=Nat.mul_le_mul_right _ (by omega)
  rw [Nat.add_mul] at this;omega
 refine⟨⟨cur,e,hr,hle⟩,?_⟩
 unfold partAt
 rw [rowAt_mk hr]
 apply Array.ext_getElem?
 intro j
 by_cases hj:j<sz
 ·have hc:=h.cell hf hg hi hj
  rw [cell_of_row _ _ _ _ _ _ hr] at hc
  rw [Array.getElem?_extract,if_pos (by omega),hc]
  simp
 ·rw [Array.getElem?_eq_none (by simp;omega),List.getElem?_toArray,List.getElem?_eq_none (by rw [hf];omega)]
theorem flat_put (hf:∀ a,(f a).length=sz):∀ (l:List α) (i:Nat) (a':α) (j:Nat),i<l.length→((l.set i a').flatMap f)[j]?=if i*sz≤j∧j<i*sz+sz then (f a')[j-i*sz]? else (l.flatMap f)[j]?
 | [],i,a',j,h=>by simp at h
 | b :: l,0,a',j,h=>by
  simp only [List.set_cons_zero,List.flatMap_cons,Nat.zero_mul,Nat.zero_add,Nat.zero_le,true_and,Nat.sub_zero]
  by_cases hj:j<sz
  ·rw [if_pos hj,List.getElem?_append_left (by rw [hf];exact hj)]
  ·rw [if_neg hj,List.getElem?_append_right (by rw [hf];omega),List.getElem?_append_right (by rw [hf];omega),hf,hf]
 | b :: l,i+1,a',j,h=>by
  simp only [List.set_cons_succ,List.flatMap_cons]
  by_cases hj:j<sz
  ·rw [if_neg (by rw [Nat.add_mul];omega),List.getElem?_append_left (by rw [hf];exact hj),List.getElem?_append_left (by rw [hf];exact hj)]
  ·rw [List.getElem?_append_right (by rw [hf];omega),List.getElem?_append_right (by rw [hf];omega),hf,flat_put hf l i a' (j-sz) (by simpa using h)]
   by_cases h2:i*sz≤j-sz∧j-sz<i*sz+sz
   ·rw [if_pos h2,if_pos (by rw [Nat.add_mul];omega),show j-(i+1)*sz=j-sz-i*sz by rw [Nat.add_mul];omega]
   ·rw [if_neg h2,if_neg (by rw [Nat.add_mul];omega)]
theorem OwnL.put (hf:∀ a,(f a).length=sz) (h:OwnL e sz f w B v l) {g:Nat} (hg:v.ownBlock=some g) {i:Nat} (hi:i<l.length) (a':α):OwnL e sz f (w.setCells g (i*sz) (f a')) B v (l.set i a'):=by
 obtain⟨cap,cur,hv,hr,hs,hl,hm,ht,hB⟩:=h.row hg
 have hle:i*sz+sz≤l.length*sz:=by
  have:(i+1)*sz≤l.length*sz:=Nat.mul_le_mul_right _ hi
  rw [Nat.add_mul] at this;omega
 have hcl:l.length*sz≤cap*sz:=Nat.mul_le_mul_right _ hl
 have hlen:∀ l:List α,(l.flatMap f).length=l.length*sz:=fun l=>flat_length hf l
 refine⟨?_,Or.inr ⟨g,cap,putCells cur (i*sz) (f a'),?_,hB,heap_setCells_same g e (f a') _ w cur hr,?_,hm,?_,?_⟩⟩
 ·rw [hlen]
 ·rw [List.length_set];exact hv
 ·rw [List.length_set];exact hl
 ·rw [putCells_size];exact hs
 ·apply List.ext_getElem?
  intro j
  rw [flat_put hf l i a' j hi,List.length_set,List.getElem?_take,Array.getElem?_toList,putCells_get _ _ _ _ (by rw [hf,hs];omega),hf]
  by_cases hj:j<l.length*sz
  ·rw [if_pos hj]
   by_cases h2:i*sz≤j∧j<i*sz+sz
   ·rw [if_pos h2,if_pos h2]
   ·rw [if_neg h2,if_neg h2,← ht,List.getElem?_take,if_pos hj,Array.getElem?_toList]
  ·rw [if_neg hj,if_neg (by omega),List.getElem?_eq_none (by rw [hlen];omega)]
end
def meantP (n:Nat) (f:Nat→Nat→Bool) (o:Nat) (G:Nat→Bool) (lv first last i:Nat):Bool:=decide (first≤i) && decide (i≤last) && thereP n f o G lv
theorem isMeant_any (b o:Nat) (G:Nat→Bool) (L:Nat→Nat) (F:Nat→Bool) (g q n:Nat) (f:Nat→Nat→Bool) (rb m cap:Nat) (i lv first last:Nat) (w:World) (hr:PRowAt w g q n f (.slice (some ⟨rb,0,none⟩) m cap)) (hn:n≤6) (hq:0<q) (hi:i<m) (hp:partIs w rb (i*20) 20) (ha:partAt w rb (i*20) 20=(cellG b o G L F).toArray) :
  Calls Try.prog 69 #[.pointer (some ⟨g,q,none⟩),.int .i64 i,.int .i64 lv,.int .i64 first,.int .i64 last] w fun e w'=>e=.returned (.bool (meantP n f o G lv first last i))∧Below w.heap.size w w':=by
 have HTH:=hide (isThere_any b o G L F g q n f _ lv w hr hn hq)
 have c0:=hr.cells
 have HD:=hide (show meantP n f o G lv first last i=(decide (first≤i) && decide (i≤last) && thereP n f o G lv) from rfl)
 have hii:(i:Int)<(m:Int):=by omega
 have hi0:(0:Int)≤(i:Int):=by omega
 clear hr
 by_cases h1:first≤i
 ·have h1i:(first:Int)≤(i:Int):=by omega
  by_cases h2:i≤last
  ·have h2i:(i:Int)≤(last:Int):=by omega
   have HE:=hide (show meantP n f o G lv first last i=thereP n f o G lv by rw [HD.out];simp [h1,h2])
   clear h1 h2 HD
   go_enter Try.func69,Try.ntmps69
   go_wp2_with fail
   refine (HTH.out).mono ?_
   rintro e w1 ⟨rfl,hb1⟩
   clear hp ha c0
   go_wp2
   go_ret
   exact⟨ret_bool (by rw [HE.out]),hb1⟩
  ·have h2i:(last:Int)<(i:Int):=by omega
   have HE:=hide (show meantP n f o G lv first last i=false by rw [HD.out];simp [h2])
   clear h1 h2 HD
   go_enter Try.func69,Try.ntmps69
   go_wp2
   go_ret
   exact⟨ret_bool (by rw [HE.out]),Below.refl _ _⟩
 ·have h1i:(i:Int)<(first:Int):=by omega
  have HE:=hide (show meantP n f o G lv first last i=false by rw [HD.out];simp [h1])
  clear h1 HD
  go_enter Try.func69,Try.ntmps69
  go_wp2
  go_ret
  exact⟨ret_bool (by rw [HE.out]),Below.refl _ _⟩
end Go.Proofs.Ytgigkiocdiffjab
