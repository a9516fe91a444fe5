import Derived.Test.YtgigkiocdiffjaaGreatE11
import Derived.Deep.RegionHeldLaw
import Derived.Test.YtgigkiocdiffjaaGreatE07
set_option maxRecDepth 100000
set_option maxHeartbeats 16000000
namespace Go.Proofs.YtgigkiocdiffjaaGreat
open Go.RowKit Veil
theorem Tryz.infoRMark:(Tryz.prog.info? 230).map (fun i=>(i.zero,i.size,i.bytes))=some (some (.agg #[.int .i64 0,.int .i64 0,.int .i64 0]),3,24):=by kernel_rfl
theorem markAll_snoc (row:List RC) (L:List Nat) (m:Mk) (k r:Nat) (h:L[k]?=some r):markAll row (L.take (k+1)) m=markC (markAll row (L.take k) m) r m:=by
 unfold markAll;exact foldl_snoc _ _ _ _ _ h
theorem markC_length (row:List RC) (r:Nat) (m:Mk):(markC row r m).length=row.length:=by simp [markC]
theorem markAll_length (row:List RC) (L:List Nat) (m:Mk):(markAll row L m).length=row.length:=by
 unfold markAll
 induction L generalizing row with
 | nil=>rfl
 | cons a L ih=>rw [List.foldl_cons,ih,markC_length]
theorem map_length_eq {rows rows':List (RC × Value)} {L:List Nat} {m:Mk} (h:rows'.map (·.1)=markAll (rows.map (·.1)) L m):rows'.length=rows.length:=by
 have:=congrArg List.length h
 rw [markAll_length] at this
 simpa using this
theorem rmark_any (w0 w:World) (g:Nat) (c:Cfg) (v:CfgV) (rows:List (RC × Value)) (acts:List RA) (rv av:Value) (L:List Nat) (lao:Option Addr) (lb lcap:Nat) (m:Mk) (hdoc:RDocO w0 w g c v rows acts rv av)
  (hlao:L=[]∨lao=some ⟨lb,0,none⟩) (hll':L≠[]→lb<w.heap.size) (hlap:L≠[]→∀ s,blkOf' g rv av rows s≠some lb) (hL:∀ (k r:Nat),L[k]?=some r→w.cell? ⟨lb,k,none⟩=some (.int .i64 r)∧r<rows.length) (hlen:L.length≤140737488355328)
  (hmk:∀ (i:Nat) (p:RC × Value),rows[i]?=some p→p.1.marks.length+L.length≤5000000000000) :
  Calls Tryz.prog 160 #[.pointer (some ⟨g,0,none⟩),.slice lao L.length lcap,.agg #[.int .i64 m.kind,.int .i64 m.level,.int .i64 m.label]] w
   fun e w'=>e=.returned (.tuple #[])∧∃ rows',RDocO w0 w' g c v rows' acts rv av∧rows'.map (·.1)=markAll (rows.map (·.1)) L m∧Only (fun k=>∃ s,blkOf' g rv av rows s=some k) w w'∧(∀ s b,blkOf' g rv av rows' s=some b→(∃ s,blkOf' g rv av rows s=some b)∨w.heap.size≤b):=by
 have HDOC:=hide hdoc
 have HLA0:=hide hlap
 have HLL:=hide hll'
 have HLO:=hide hlao
 have HL:=hide hL
 have HMK:=hide hmk
 have hgl:=hdoc.box.lt
 have hbM:Below w.heap.size w (w.alloc (.cells #[.int .i64 m.kind,.int .i64 m.level,.int .i64 m.label] 230)):=below_box w _
 have HBX:=hide (Go.heap_alloc_new w (.cells #[.int .i64 m.kind,.int .i64 m.level,.int .i64 m.label] 230))
 have HFN:=hide (show ∀ k,(∃ s,blkOf' g rv av rows s=some k)→w0.heap.size≤k∧k<w.heap.size from fun k ⟨s,hs⟩=>hdoc.parts.low s k hs)
 have HD0:=hide (hdoc.kept (F:=fun _=>False) (Only.of_below hbM) (fun k h=>absurd h (fun h=>h)) (fun _ _ _ h=>h))
 clear hdoc hlap hL hmk hll' hlao
 go_enter Tryz.func160,Tryz.ntmps160
 go_wp2
 go_loopw [6] (fun i wr=>∃ k:Nat,k≤L.length∧i=.int .i64 k∧∃ rows',RDocO w0 wr g c v rows' acts rv av∧rows'.map (·.1)=markAll (rows.map (·.1)) (L.take k) m∧Only (fun k=>∃ s,blkOf' g rv av rows s=some k) (w.alloc (.cells #[.int .i64 m.kind,.int .i64 m.level,.int .i64 m.label] 230)) wr∧(∀ s b,blkOf' g rv av rows' s=some b→(∃ s,blkOf' g rv av rows s=some b)∨w.heap.size+1≤b)∧(∀ (i:Nat) (p:RC × Value),rows'[i]?=some p→p.1.marks.length+L.length≤5000000000000+k)) (fun i _=>L.length-(intOf i).toNat)
 case atStart=>exact⟨0,Nat.zero_le _,rfl,rows,HD0.out,rfl,Only.refl _ _,fun s b hb=>Or.inl ⟨s,hb⟩,fun i p hp=>HMK.out i p hp⟩
 case round=>
  obtain⟨wo,rfl⟩:∃ x,x=wr:=⟨_,rfl⟩
  obtain⟨k,hk,rfl,rows',hd,hmap,honly,hfoot,hmks⟩:=hrel
  have HD:=hide hd
  have HMAP:=hide hmap
  have HON:=hide honly
  have HFO:=hide hfoot
  have HMS:=hide hmks
  have r4:=hd.box.row
  have hgo:=hd.box.lt
  clear hd hmap honly hfoot hmks
  by_cases hlt:k<L.length
  ·have hLne:L≠[]:=fun e=>by rw [e] at hlt;simp at hlt
   have hll:=HLL.out hLne
   have HLA:=hide (HLA0.out hLne)
   have hlo:=HLO.out.resolve_left hLne
   subst hlo
   have hej:L[k]?=some L[k]:=List.getElem?_eq_getElem hlt
   obtain⟨c0,hrl⟩:=HL.out k _ hej
   have HSN:=hide (markAll_snoc (rows.map (·.1)) L m k _ hej)
   generalize L[k]=r at *
   have hrl2:r<rows'.length:=by rw [map_length_eq HMAP.out];exact hrl
   have hp:rows'[r]?=some rows'[r]:=List.getElem?_eq_getElem hrl2
   obtain⟨rb,cb,hrv,_,hrbl⟩:=HD.out.row.form (by omega)
   subst hrv
   have m2:=HD.out.row.cell (show ∀ a,(cellV a).length=3 from fun _=>rfl) rfl hp (j:=2) (by omega)
   have HOWN:=hide (HD.out.marks r _ hp)
   have hml:=HMS.out r _ hp
   have HP:=hide hp
   generalize rows'[r]=p at *
   obtain⟨⟨xb,xo,xm⟩,mv⟩:=p
   simp only at hml
   have hlbN:lb≠w.heap.size:=by omega
   have d0:wo.cell? ⟨lb,k,none⟩=some (.int .i64 r):=by
    have h1:=World.cell?_of_block (a:=⟨lb,k,none⟩) (HON.out.block lb (by simp;omega) (fun ⟨s,hs⟩=>HLA.out s hs))
    rw [h1]
    exact (hbM.cell (p:=⟨lb,k,none⟩) hll).trans c0
   have HBXo:Hid (wo.heap[w.heap.size]?=some (.cells #[.int .i64 m.kind,.int .i64 m.level,.int .i64 m.label] 230 (0,0))):=(HON.out.block w.heap.size (by simp) (fun hs=>by have:=(HFN.out _ hs).2;omega)).trans HBX.out
   have x0:wo.cell? ⟨w.heap.size,0,none⟩=some (.int .i64 m.kind):=(cell_of_row _ _ _ _ _ _ HBXo.out).trans rfl
   have x1:wo.cell? ⟨w.heap.size,1,none⟩=some (.int .i64 m.level):=(cell_of_row _ _ _ _ _ _ HBXo.out).trans rfl
   have x2:wo.cell? ⟨w.heap.size,2,none⟩=some (.int .i64 m.label):=(cell_of_row _ _ _ _ _ _ HBXo.out).trans rfl
   have m2':wo.cell? ⟨rb,r*3+2,none⟩=some mv:=m2
   have hki:(k:Int)<(L.length:Int):=by omega
   have hri:(r:Int)<(rows'.length:Int):=by omega
   have hlbo:lb<wo.heap.size:=by have:=HON.out.size;simp at this;omega
   have hbxo:=lt_of_row HBXo.out
   have hrowp:blkOf' g (.slice (some ⟨rb,0,none⟩) rows'.length cb) av rows' .row=some rb:=rfl
   have hrg:rb≠g:=fun e=>by subst e;cases HD.out.parts.apart .row .box rb hrowp rfl
   have hrlb:rb≠lb:=fun e=>by
    rcases HFO.out .row rb hrowp with⟨s,hs⟩|h
    ·exact HLA.out s (by rw [hs,e])
    ·omega
   have hrm:rb≠w.heap.size:=fun e=>by
    rcases HFO.out .row rb hrowp with hs|h
    ·have:=(HFN.out _ hs).2;omega
    ·omega
   have HMF:=hide (show ∀ b,mv.ownBlock=some b→b≠g∧b≠rb∧b≠lb∧b≠w.heap.size from fun b hb=>by
    have hmk:blkOf' g (.slice (some ⟨rb,0,none⟩) rows'.length cb) av rows' (.mk r)=some b:=by simp only [blkOf',HP.out,Option.bind_some];exact hb
    refine⟨fun e=>?_,fun e=>?_,fun e=>?_,fun e=>?_⟩
    ·subst e;cases HD.out.parts.apart (.mk r) .box b hmk rfl
    ·subst e;cases HD.out.parts.apart (.mk r) .row b hmk hrowp
    ·rcases HFO.out (.mk r) b hmk with⟨s,hs⟩|h
     ·exact HLA.out s (by rw [hs,e])
     ·omega
    ·rcases HFO.out (.mk r) b hmk with hs|h
     ·have:=(HFN.out _ hs).2;omega
     ·omega)
   have hbA:Below wo.heap.size wo (wo.drew.alloc (.cells #[.int .i64 m.kind,.int .i64 m.level,.int .i64 m.label] 230)):=(below_drew wo).alloc (Nat.le_refl _) _
   have HOA:=hide (HOWN.out.below hbA)
   have HNA:=hide (Go.heap_alloc_new wo.drew (.cells #[.int .i64 m.kind,.int .i64 m.level,.int .i64 m.label] 230))
   have hB0:=HD.out.old.size
   clear hej hp m2 c0 hLne
   go_wp2_with fail
   refine wp_region_held_drew (S:=(fun w'=>w'.cell? ⟨g,4,none⟩=some (.slice (some ⟨rb,0,none⟩) rows'.length cb)∧w'.cell? ⟨lb,k,none⟩=some (.int .i64 r)∧w'.cell? ⟨w.heap.size,0,none⟩=some (.int .i64 m.kind)∧w'.cell? ⟨w.heap.size,1,none⟩=some (.int .i64 m.level)∧w'.cell? ⟨w.heap.size,2,none⟩=some (.int .i64 m.label))) (by kernel_rfl) ?_ (fun hHeld=>?_)
   ·(try dsimp only);go_keep
   refine tV 0 13 ?_
   (try simp only [Act.put,lA,lZ,lS])
   refine tV 1 14 ?_
   (try simp only [Act.put,lA,lZ,lS])
   refine tV 2 15 ?_
   (try simp only [Act.put,lA,lZ,lS])
   refine tV 3 16 ?_
   (try simp only [Act.put,lA,lZ,lS])
   refine tV 4 17 ?_
   (try simp only [Act.put,lA,lZ,lS])
   refine tV 5 18 ?_
   (try simp only [Act.put,lA,lZ,lS])
   refine tV 6 19 ?_
   (try simp only [Act.put,lA,lZ,lS])
   refine tV 7 20 ?_
   (try simp only [Act.put,lA,lZ,lS])
   refine tV 8 21 ?_
   (try simp only [Act.put,lA,lZ,lS])
   refine tV 9 22 ?_
   (try simp only [Act.put,lA,lZ,lS])
   refine tV 10 23 ?_
   (try simp only [Act.put,lA,lZ,lS])
   refine tV 11 24 ?_
   (try simp only [Act.put,lA,lZ,lS])
   refine tV 12 25 ?_
   (try simp only [Act.put,lA,lZ,lS])
   refine tV 13 26 ?_
   (try simp only [Act.put,lA,lZ,lS])
   refine tV 14 27 ?_
   (try simp only [Act.put,lA,lZ,lS])
   refine tV 15 28 ?_
   (try simp only [Act.put,lA,lZ,lS])
   refine tV 16 29 ?_
   (try simp only [Act.put,lA,lZ,lS])
   refine tV 17 30 ?_
   (try simp only [Act.put,lA,lZ,lS])
   refine tV 19 32 ?_
   (try simp only [Act.put,lA,lZ,lS])
   refine wpAnyH_ready (rs:=[18,20]) (by kernel_rfl) (by simp) ?_
   refine AllReadyH.cons rfl (fun K hK=>?_) (AllReadyH.cons rfl (fun K hK=>?_) AllReadyH.nil)
   ·go_simp
    refine hK.out _ _ ?_ (fun hHeld=>?_)
    ·(try dsimp only);go_keep
    clear hK K
    refine wpAnyH_ready (rs:=[20]) (by kernel_rfl) (by simp) ?_
    refine AllReadyH.cons rfl (fun K hK=>?_) AllReadyH.nil
    go_simp
    refine hK.out _ _ ?_ (fun hHeld=>?_)
    ·(try dsimp only);go_keep
    clear hK K
    refine wpAnyH_ready (rs:=[21]) (by kernel_rfl) (by simp) ?_
    refine AllReadyH.cons rfl (fun K hK=>?_) AllReadyH.nil
    refine step_push rfl (.tmp 31) (.tmp 33) 221 rfl (.agg #[.int .i64 0,.int .i64 0,.int .i64 0]) 24 Tryz.underlying221 Tryz.infoRMark rfl (by decide) rfl HOA.out wo.heap.size 1 m rfl 230 (0,0) HNA.out rfl (by intro u hu;simp [markV] at hu;rcases hu with rfl|rfl|rfl <;> rfl) (by omega) (by decide) (by simp;omega) (wo.heap.size+1) (by simp) ?_;intro g6 cap6 w6 hown6 hgrow6 hat6 hlt6;have z1:=(hgrow6.cell_far ⟨g,4,none⟩ (by simp;omega) (fun e=>(HMF.out _ e.symm).1 rfl)).trans ((hbA.cell (p:=⟨g,4,none⟩) hgo).trans r4);have z2:=(hgrow6.cell_far ⟨lb,k,none⟩ (by simp;omega) (fun e=>(HMF.out _ e.symm).2.2.1 rfl)).trans ((hbA.cell (p:=⟨lb,k,none⟩) hlbo).trans d0);have z3:=(hgrow6.cell_far ⟨w.heap.size,0,none⟩ (by simp;omega) (fun e=>(HMF.out _ e.symm).2.2.2 rfl)).trans ((hbA.cell (p:=⟨w.heap.size,0,none⟩) hbxo).trans x0);have z4:=(hgrow6.cell_far ⟨w.heap.size,1,none⟩ (by simp;omega) (fun e=>(HMF.out _ e.symm).2.2.2 rfl)).trans ((hbA.cell (p:=⟨w.heap.size,1,none⟩) hbxo).trans x1);have z5:=(hgrow6.cell_far ⟨w.heap.size,2,none⟩ (by simp;omega) (fun e=>(HMF.out _ e.symm).2.2.2 rfl)).trans ((hbA.cell (p:=⟨w.heap.size,2,none⟩) hbxo).trans x2);have z6:=(hgrow6.cell_far ⟨rb,r*3+2,none⟩ (by simp;omega) (fun e=>(HMF.out _ e.symm).2.1 rfl)).trans ((hbA.cell (p:=⟨rb,r*3+2,none⟩) hrbl).trans m2');have z7:w6.frozen? ⟨rb,r*3+2,none⟩=false:=by (obtain⟨_,_,_,hrw,_⟩:=HD.out.row.row (g:=rb) rfl;rw [hgrow6.frozen_far ⟨rb,r*3+2,none⟩ (by simp;omega) (fun e=>(HMF.out _ e.symm).2.1 rfl)];exact frozen_of_row _ _ _ _ _ (row_alloc' (o':=(.cells #[.int .i64 m.kind,.int .i64 m.level,.int .i64 m.label] 230)) (w:=wo.drew) hrw))
    refine hK.out _ _ ?_ (fun hHeld=>?_)
    ·(try dsimp only);go_keep
    clear hK K
    refine tV 22 35 ?_
    (try simp only [Act.put,List.setIfInBounds_toArray])
    refine tV 23 36 ?_
    (try simp only [Act.put])
    refine wpAnyH_ready (rs:=[24]) (by kernel_rfl) (by simp) ?_
    refine AllReadyH.cons rfl (fun K hK=>?_) AllReadyH.nil
    go_simp
    refine hK.out _ _ ?_ (fun hHeld=>?_)
    ·(try dsimp only);go_keep
    clear hK K
    refine wpAnyH_done (by kernel_rfl) ?_ _
    obtain⟨n1,n2,n3⟩:=markStep (p:=(⟨xb,xo,xm⟩,mv)) HD.out HP.out (rb:=rb) rfl hbA hown6 hgrow6 (by have h:mv.ownBlock=some g6∨g6=wo.heap.size+1:=hat6;simpa using h) hlt6
    have HN1:=hide n1
    have HN2:=hide (HON.out.trans n2 (fun b hs=>by rcases hs with⟨s,hs⟩;rcases HFO.out s b hs with h|h;exact Or.inl h;exact Or.inr (by simpa using h)))
    have HN3:=hide (show ∀ s b,blkOf' g (.slice (some ⟨rb,0,none⟩) rows'.length cb) av (markAt rows' r m (.slice (some ⟨g6,0,none⟩) (xm.length+1) cap6)) s=some b→(∃ s,blkOf' g (.slice (some ⟨rb,0,none⟩) rows'.length cb) av rows s=some b)∨w.heap.size+1≤b from fun s b hb=>by rcases n3 s b hb with⟨s',hs⟩|h;exact HFO.out s' b hs;right;have:=HON.out.size;simp at this;omega)
    have HN4:=hide (show ∀ (i:Nat) (p:RC × Value),(markAt rows' r m (.slice (some ⟨g6,0,none⟩) (xm.length+1) cap6))[i]?=some p→p.1.marks.length+L.length≤5000000000000+(k+1) from fun i p hp=>by
     obtain⟨g1,g2⟩:=markAt_get (m:=m) (mv:=.slice (some ⟨g6,0,none⟩) (xm.length+1) cap6) HP.out
     by_cases hi:i=r
     ·subst hi
      rw [g1] at hp
      obtain rfl:=Option.some.inj hp
      simp only [List.length_append,List.length_singleton]
      omega
     ·rw [g2 i hi] at hp
      have:=HMS.out i p hp
      omega)
    have HN5:=hide (show (markAt rows' r m (.slice (some ⟨g6,0,none⟩) (xm.length+1) cap6)).map (·.1)=markAll (rows.map (·.1)) (L.take (k+1)) m by rw [markAt_map,HMAP.out,HSN.out])
    clear n1 n2 n3
    go_wp2
    go_roundw
    case rel=>exact⟨k+1,by omega,by go_num,_,HN1.out,HN5.out,HN2.out,HN3.out,HN4.out⟩
    case measure=>simp [intOf];omega
   ·go_simp
    refine hK.out _ _ ?_ (fun hHeld=>?_)
    ·(try dsimp only);go_keep
    clear hK K
    refine wpAnyH_ready (rs:=[18]) (by kernel_rfl) (by simp) ?_
    refine AllReadyH.cons rfl (fun K hK=>?_) AllReadyH.nil
    go_simp
    refine hK.out _ _ ?_ (fun hHeld=>?_)
    ·(try dsimp only);go_keep
    clear hK K
    refine wpAnyH_ready (rs:=[21]) (by kernel_rfl) (by simp) ?_
    refine AllReadyH.cons rfl (fun K hK=>?_) AllReadyH.nil
    refine step_push rfl (.tmp 31) (.tmp 33) 221 rfl (.agg #[.int .i64 0,.int .i64 0,.int .i64 0]) 24 Tryz.underlying221 Tryz.infoRMark rfl (by decide) rfl HOA.out wo.heap.size 1 m rfl 230 (0,0) HNA.out rfl (by intro u hu;simp [markV] at hu;rcases hu with rfl|rfl|rfl <;> rfl) (by omega) (by decide) (by simp;omega) (wo.heap.size+1) (by simp) ?_;intro g6 cap6 w6 hown6 hgrow6 hat6 hlt6;have z1:=(hgrow6.cell_far ⟨g,4,none⟩ (by simp;omega) (fun e=>(HMF.out _ e.symm).1 rfl)).trans ((hbA.cell (p:=⟨g,4,none⟩) hgo).trans r4);have z2:=(hgrow6.cell_far ⟨lb,k,none⟩ (by simp;omega) (fun e=>(HMF.out _ e.symm).2.2.1 rfl)).trans ((hbA.cell (p:=⟨lb,k,none⟩) hlbo).trans d0);have z3:=(hgrow6.cell_far ⟨w.heap.size,0,none⟩ (by simp;omega) (fun e=>(HMF.out _ e.symm).2.2.2 rfl)).trans ((hbA.cell (p:=⟨w.heap.size,0,none⟩) hbxo).trans x0);have z4:=(hgrow6.cell_far ⟨w.heap.size,1,none⟩ (by simp;omega) (fun e=>(HMF.out _ e.symm).2.2.2 rfl)).trans ((hbA.cell (p:=⟨w.heap.size,1,none⟩) hbxo).trans x1);have z5:=(hgrow6.cell_far ⟨w.heap.size,2,none⟩ (by simp;omega) (fun e=>(HMF.out _ e.symm).2.2.2 rfl)).trans ((hbA.cell (p:=⟨w.heap.size,2,none⟩) hbxo).trans x2);have z6:=(hgrow6.cell_far ⟨rb,r*3+2,none⟩ (by simp;omega) (fun e=>(HMF.out _ e.symm).2.1 rfl)).trans ((hbA.cell (p:=⟨rb,r*3+2,none⟩) hrbl).trans m2');have z7:w6.frozen? ⟨rb,r*3+2,none⟩=false:=by (obtain⟨_,_,_,hrw,_⟩:=HD.out.row.row (g:=rb) rfl;rw [hgrow6.frozen_far ⟨rb,r*3+2,none⟩ (by simp;omega) (fun e=>(HMF.out _ e.symm).2.1 rfl)];exact frozen_of_row _ _ _ _ _ (row_alloc' (o':=(.cells #[.int .i64 m.kind,.int .i64 m.level,.int .i64 m.label] 230)) (w:=wo.drew) hrw))
    refine hK.out _ _ ?_ (fun hHeld=>?_)
    ·(try dsimp only);go_keep
    clear hK K
    refine tV 22 35 ?_
    (try simp only [Act.put,List.setIfInBounds_toArray])
    refine tV 23 36 ?_
    (try simp only [Act.put])
    refine wpAnyH_ready (rs:=[24]) (by kernel_rfl) (by simp) ?_
    refine AllReadyH.cons rfl (fun K hK=>?_) AllReadyH.nil
    go_simp
    refine hK.out _ _ ?_ (fun hHeld=>?_)
    ·(try dsimp only);go_keep
    clear hK K
    refine wpAnyH_done (by kernel_rfl) ?_ _
    obtain⟨n1,n2,n3⟩:=markStep (p:=(⟨xb,xo,xm⟩,mv)) HD.out HP.out (rb:=rb) rfl hbA hown6 hgrow6 (by have h:mv.ownBlock=some g6∨g6=wo.heap.size+1:=hat6;simpa using h) hlt6
    have HN1:=hide n1
    have HN2:=hide (HON.out.trans n2 (fun b hs=>by rcases hs with⟨s,hs⟩;rcases HFO.out s b hs with h|h;exact Or.inl h;exact Or.inr (by simpa using h)))
    have HN3:=hide (show ∀ s b,blkOf' g (.slice (some ⟨rb,0,none⟩) rows'.length cb) av (markAt rows' r m (.slice (some ⟨g6,0,none⟩) (xm.length+1) cap6)) s=some b→(∃ s,blkOf' g (.slice (some ⟨rb,0,none⟩) rows'.length cb) av rows s=some b)∨w.heap.size+1≤b from fun s b hb=>by rcases n3 s b hb with⟨s',hs⟩|h;exact HFO.out s' b hs;right;have:=HON.out.size;simp at this;omega)
    have HN4:=hide (show ∀ (i:Nat) (p:RC × Value),(markAt rows' r m (.slice (some ⟨g6,0,none⟩) (xm.length+1) cap6))[i]?=some p→p.1.marks.length+L.length≤5000000000000+(k+1) from fun i p hp=>by
     obtain⟨g1,g2⟩:=markAt_get (m:=m) (mv:=.slice (some ⟨g6,0,none⟩) (xm.length+1) cap6) HP.out
     by_cases hi:i=r
     ·subst hi
      rw [g1] at hp
      obtain rfl:=Option.some.inj hp
      simp only [List.length_append,List.length_singleton]
      omega
     ·rw [g2 i hi] at hp
      have:=HMS.out i p hp
      omega)
    have HN5:=hide (show (markAt rows' r m (.slice (some ⟨g6,0,none⟩) (xm.length+1) cap6)).map (·.1)=markAll (rows.map (·.1)) (L.take (k+1)) m by rw [markAt_map,HMAP.out,HSN.out])
    clear n1 n2 n3
    go_wp2
    go_roundw
    case rel=>exact⟨k+1,by omega,by go_num,_,HN1.out,HN5.out,HN2.out,HN3.out,HN4.out⟩
    case measure=>simp [intOf];omega
  ·obtain rfl:k=L.length:=by omega
   have hkc:decide ((L.length:Int)<(L.length:Int))=false:=by simp
   have HM2:=hide (show rows'.map (·.1)=markAll (rows.map (·.1)) L m by rw [HMAP.out,List.take_length])
   have HO2:=hide ((Only.of_below (F:=fun k=>∃ s,blkOf' g rv av rows s=some k) hbM).trans HON.out (fun k h=>Or.inl h))
   go_wp2
   go_end0
   exact⟨rfl,rows',HD.out,HM2.out,HO2.out,fun s b hb=>(HFO.out s b hb).imp id (fun h=>by omega)⟩
end Go.Proofs.YtgigkiocdiffjaaGreat
namespace Go.Proofs.YtgigkiocdiffjaaGreat
open Go.RowKit Veil
theorem Tryz.infoRAct:(Tryz.prog.info? 225).map (fun i=>(i.zero,i.size,i.bytes))=some (some (.agg #[.int .i64 0,.int .i64 0,.int .i64 0,.int .i64 0]),4,32):=by kernel_rfl
section
variable {w0 w w1 w2:World} {g:Nat} {c:Cfg} {v:CfgV} {rows:List (RC × Value)} {acts:List RA} {rv av:Value}
theorem actStep {g' cap':Nat} {a:RA} (h:RDocO w0 w g c v rows acts rv av) (h1:Below w.heap.size w w1)
  (hown:OwnL 225 4 actV w2 w0.heap.size (.slice (some ⟨g',0,none⟩) (acts.length+1) cap') (acts++[a])) (hgrow:w1.grownBy w2 av.ownBlock) (hat:av.ownBlock=some g'∨g'=w1.heap.size) (hlt:g'<w2.heap.size) :
  RDocO w0 (w2.setCell ⟨g,5,none⟩ (.slice (some ⟨g',0,none⟩) (acts.length+1) cap')) g c v rows (acts++[a]) rv (.slice (some ⟨g',0,none⟩) (acts.length+1) cap') ∧
  Only (fun k=>∃ s,blkOf' g rv av rows s=some k) w (w2.setCell ⟨g,5,none⟩ (.slice (some ⟨g',0,none⟩) (acts.length+1) cap')) ∧
  (∀ s b,blkOf' g rv (.slice (some ⟨g',0,none⟩) (acts.length+1) cap') rows s=some b→(∃ s,blkOf' g rv av rows s=some b)∨w.heap.size≤b):=by
 have hbox:blkOf' g rv av rows .box=some g:=rfl
 have hact:blkOf' g rv av rows .acts=av.ownBlock:=rfl
 have hag:∀ b,av.ownBlock=some b→b≠g:=fun b hb e=>by subst e;cases h.parts.apart .box .acts b rfl hb
 have hgl:=h.parts.low .box g rfl
 have hg'g:g'≠g:=fun e=>by
  rcases hat with h3|h3
  ·exact hag g' h3 e
  ·have:=h1.size;omega
 have hsz2:w.heap.size≤w2.heap.size:=Nat.le_trans h1.size hgrow.size
 have hB0:=h.old.size
 have k2:∀ {α:Type} {e:TypeId} {sz:Nat} {f:α→List Value} {x:Value} {l:List α},OwnL e sz f w w0.heap.size x l→(∀ b,x.ownBlock=some b→av.ownBlock=some b→False)→OwnL e sz f w2 w0.heap.size x l:=fun hx hb=>(hx.below h1).kept hgrow hb
 have k3:∀ {α:Type} {e:TypeId} {sz:Nat} {f:α→List Value} {x:Value} {l:List α},OwnL e sz f w2 w0.heap.size x l→(∀ b,x.ownBlock=some b→b≠g)→OwnL e sz f (w2.setCell ⟨g,5,none⟩ (.slice (some ⟨g',0,none⟩) (acts.length+1) cap')) w0.heap.size x l:=fun hx hb=>hx.kept (grown_setCell _ _ _) (fun b hb1 hb2=>hb b hb1 (Option.some.inj hb2).symm)
 have hpart:∀ s,s≠.acts→blkOf' g rv (.slice (some ⟨g',0,none⟩) (acts.length+1) cap') rows s=blkOf' g rv av rows s:=by
  intro s hs
  cases s with
  | acts=>exact absurd rfl hs
  | _=>rfl
 have hnew:∀ b,blkOf' g rv (.slice (some ⟨g',0,none⟩) (acts.length+1) cap') rows .acts=some b→blkOf' g rv av rows .acts=some b∨(w.heap.size≤b∧b<w2.heap.size):=by
  intro b hb
  obtain rfl:g'=b:=Option.some.inj hb
  rcases hat with h3|h3
  ·exact Or.inl h3
  ·right;have:=h1.size;omega
 refine⟨⟨?_,h.cfg,?_,?_,?_,?_,?_⟩,?_,?_⟩
 ·have e1:w2.heap[g]?=w.heap[g]?:=by
   rw [hgrow.block g (Nat.lt_of_lt_of_le h.box.lt h1.size) (fun e=>hag g e.symm rfl),h1.block g h.box.lt]
  unfold RBox
  rw [heap_setCell_same _ _ _ _ _ _ (e1.trans h.box)]
  rfl
 ·refine⟨?_,?_,?_,?_,?_⟩
  ·exact hgrow.os.trans (h1.os.trans h.old.os)
  ·exact hgrow.tape.trans (h1.tape.trans h.old.tape)
  ·exact hgrow.output.trans (h1.output.trans h.old.output)
  ·rw [size_setCell'];omega
  ·intro k hk
   rw [heap_setCell_other _ _ _ _ (show k≠g by omega),hgrow.block k (by have:=h1.size;omega) (fun e=>by have:=(h.parts.low .acts k e.symm).1;omega),h1.block k (by omega)]
   exact h.old.block k hk
 ·exact k3 (k2 h.row (fun b hb1 hb2=>by cases h.parts.apart .row .acts b hb1 hb2)) (fun b hb e=>by subst e;cases h.parts.apart .box .row b rfl hb)
 ·intro i q hq
  have hbi:blkOf' g rv av rows (.mk i)=q.2.ownBlock:=by simp only [blkOf',hq,Option.bind_some]
  exact k3 (k2 (h.marks i q hq) (fun b hb1 hb2=>by cases h.parts.apart (.mk i) .acts b (hbi.trans hb1) hb2)) (fun b hb e=>by subst e;cases h.parts.apart .box (.mk i) b rfl (hbi.trans hb))
 ·exact k3 hown (fun b hb=>by rw [← Option.some.inj hb];exact hg'g)
 ·have:=h.parts.upd .acts hsz2 hB0 hpart hnew
  rw [size_setCell']
  exact this
 ·refine⟨?_,?_,?_,?_,fun k hk hF=>?_⟩
  ·exact hgrow.os.trans h1.os
  ·exact hgrow.tape.trans h1.tape
  ·exact hgrow.output.trans h1.output
  ·rw [size_setCell'];exact hsz2
  ·rw [heap_setCell_other _ _ _ _ (fun e=>hF ⟨.box,by rw [hbox,e]⟩),hgrow.block k (Nat.lt_of_lt_of_le hk h1.size) (fun e=>hF ⟨.acts,e.symm⟩),h1.block k hk]
 ·intro s b hb
  by_cases hs:s=.acts
  ·subst hs
   rcases hnew b hb with h3|h3
   ·exact Or.inl ⟨_,h3⟩
   ·exact Or.inr h3.1
  ·rw [hpart s hs] at hb
   exact Or.inl ⟨s,hb⟩
end
end Go.Proofs.YtgigkiocdiffjaaGreat
namespace Go.Proofs.YtgigkiocdiffjaaGreat
open Go.RowKit Veil
structure PlOk (n:Nat) (p:Pl):Prop where
 byte:p.b<256
 le:p.first≤p.last
 lt:p.last<n
theorem mem_lastTo {l:List Pl} {x:Nat} {p:Pl} (h:p ∈ lastTo l x):p ∈ l∨∃ q,q ∈ l∧p=⟨q.b,q.first,x⟩:=by
 obtain⟨i,hi,he⟩:=List.getElem_of_mem h
 unfold lastTo at he hi
 rw [List.getElem_modify] at he
 split at he
 ·exact Or.inr ⟨_,List.getElem_mem _,he.symm⟩
 ·exact Or.inl (he ▸ List.getElem_mem _)
theorem plTo_ok {A B:Nat→Nat} {h:Nat→Bool} {m:Nat} (hB:∀ j,j<m→B j<256) (hmono:∀ i j,i<j→j<m→A i<A j):∀ k,k≤m→∀ p,p ∈ plTo A B h k→p.b<256∧p.first≤p.last∧∃ j,j<k∧p.last=A j:=by
 intro k
 induction k with
 | zero=>intro _ p hp;simp [plTo] at hp
 | succ k ih=>
  intro hk p hp
  have old:∀ q,q ∈ plTo A B h k→q.b<256∧q.first≤q.last∧∃ j,j<k+1∧q.last=A j:=fun q hq=>by
   obtain⟨h1,h2,j,h3,h4⟩:=ih (by omega) q hq
   exact⟨h1,h2,j,by omega,h4⟩
  rw [plTo] at hp
  cases hh:h k
  ·rw [hh] at hp
   simp only [cond_false,List.mem_append,List.mem_singleton] at hp
   rcases hp with hp|rfl
   ·exact old p hp
   ·exact⟨hB k (by omega),Nat.le_refl _,k,by omega,rfl⟩
  ·rw [hh] at hp
   cases h2:(decide (0<k) && h (k-1))
   ·rw [h2] at hp
    simp only [cond_true,cond_false,List.mem_append,List.mem_singleton] at hp
    rcases hp with hp|rfl
    ·exact old p hp
    ·exact⟨show (35:Nat)<256 by decide,Nat.le_refl _,k,by omega,rfl⟩
   ·rw [h2] at hp
    simp only [cond_true] at hp
    rcases mem_lastTo hp with hp|⟨q,hq,rfl⟩
    ·exact old p hp
    ·obtain⟨h1,h2,j,h3,h4⟩:=ih (by omega) q hq
     refine⟨h1,?_,k,by omega,rfl⟩
     have:=hmono j k h3 (by omega)
     simp only
     omega
theorem numF_mono (c:Cfg) (row:List RC) (d k:Nat):∀ i j,i<j→j<(atTo c row d k).length→numF (atTo c row d k) i<numF (atTo c row d k) j:=by
 intro i j hij hj
 have hp:List.Pairwise (·<·) (atTo c row d k):=by
  unfold atTo
  exact List.Pairwise.filter _ List.pairwise_lt_range
 have:=List.pairwise_iff_getElem.1 hp i j (by omega) hj hij
 have h1:numF (atTo c row d k) i=(atTo c row d k)[i]'(by omega):=by simp [numF,List.getD,List.getElem?_eq_getElem (show i<(atTo c row d k).length by omega)]
 have h2:numF (atTo c row d k) j=(atTo c row d k)[j]:=by simp [numF,List.getD,List.getElem?_eq_getElem hj]
 rw [h1,h2];exact this
theorem placesR_ok (c:Cfg) (row:List RC) (d:Nat) (hb:∀ x,x ∈ row→x.b<256):(placesR c row d).length≤row.length∧∀ p,p ∈ placesR c row d→PlOk row.length p:=by
 have hl:=atTo_length c row d row.length
 have hA:∀ j,j<(atTo c row d row.length).length→numF (atTo c row d row.length) j<row.length:=fun j hj=>by
  have h2:numF (atTo c row d row.length) j=(atTo c row d row.length)[j]:=by simp [numF,List.getD,List.getElem?_eq_getElem hj]
  rw [h2];exact atTo_lt (List.getElem_mem hj)
 have hB:∀ r,byF row r<256:=fun r=>by
  unfold byF cellAt
  by_cases hr:r<row.length
  ·have:row.getD r ⟨0,0,[]⟩=row[r]:=by simp [List.getD,hr]
   rw [this];exact hb _ (List.getElem_mem hr)
  ·have:row.getD r ⟨0,0,[]⟩=⟨0,0,[]⟩:=by simp [List.getD];rw [List.getElem?_eq_none (by omega)];rfl
   rw [this];decide
 unfold placesR placesF
 refine⟨Nat.le_trans (plTo_length _ _ _ _).1 hl,fun p hp=>?_⟩
 obtain⟨h1,h2,j,h3,h4⟩:=plTo_ok (fun j _=>hB _) (numF_mono c row d row.length) _ (Nat.le_refl _) p hp
 exact⟨h1,h2,by rw [h4];exact hA j h3⟩
theorem plB_ok {n:Nat} {P:List Pl} (h:∀ p,p ∈ P→PlOk n p) (j:Nat):plB P j<256:=by
 unfold plB
 by_cases hj:j<P.length
 ·have:P.getD j ⟨0,0,0⟩=P[j]:=by simp [List.getD,hj]
  rw [this];exact (h _ (List.getElem_mem hj)).byte
 ·have:P.getD j ⟨0,0,0⟩=⟨0,0,0⟩:=by simp [List.getD];rw [List.getElem?_eq_none (by omega)];rfl
  rw [this];decide
end Go.Proofs.YtgigkiocdiffjaaGreat
namespace Go.Proofs.YtgigkiocdiffjaaGreat
open Go.RowKit Veil
theorem places_of {c:Cfg} {rows:List (RC × Value)} (hok:RDocOk c rows) (d:Nat):(placesR c (rows.map (·.1)) d).length≤rows.length∧∀ p,p ∈ placesR c (rows.map (·.1)) d→PlOk rows.length p:=by
 have:=placesR_ok c (rows.map (·.1)) d (fun x hx=>by
  obtain⟨p,hp,rfl⟩:=List.mem_map.1 hx
  exact (hok.cells p hp).1.byte)
 simpa using this
theorem RDocO.drop {w0 w w':World} {g:Nat} {c:Cfg} {v:CfgV} {rows:List (RC × Value)} {acts:List RA} {rv av:Value} (h:RDocO w0 w g c v rows acts rv av) (hb:Below w.heap.size w w'):RDocO w0 w' g c v rows acts rv av:=
 h.kept (F:=fun _=>False) (Only.of_below hb) (fun _ h=>absurd h (fun h=>h)) (fun _ _ _ h=>h)
theorem rdelete_no1 (c:Cfg) (v:CfgV) (rows:List (RC × Value)) (rv av:Value) (g:Nat) (level a b:Int) (w:World) (hdoc:RDocR w g c v rows rv av) (hlv:okL c.labels level=false) :
  Calls Tryz.prog 133 #[.pointer (some ⟨g,0,none⟩),.int .i64 level,.int .i64 a,.int .i64 b] w fun e w'=>e=.returned (.int .i64 6)∧Below w.heap.size w w':=by
 have HLB:=hide (fun w'=>rlabel_any c v level w')
 obtain⟨q0,q1,q2,q3⟩:=hdoc.box.cells
 rw [hlv] at HLB
 unfold cfgCells at HLB
 clear hlv hdoc
 go_enter Tryz.func133,Tryz.ntmps133
 go_wp2_with fail
 refine (HLB.out _).mono ?_
 rintro e w1 ⟨rfl,hb1⟩
 go_wp2
 go_ret
 exact⟨rfl,hb1⟩
theorem rdelete_no2 (c:Cfg) (v:CfgV) (rows:List (RC × Value)) (rv av:Value) (g level:Nat) (a b:Int) (w:World) (hdoc:RDocR w g c v rows rv av) (hok:RDocOk c rows) (hlv:okL c.labels level=true) (hno:a<0∨b≤a∨((placesR c (rows.map (·.1)) level).length:Int)<b) :
  Calls Tryz.prog 133 #[.pointer (some ⟨g,0,none⟩),.int .i64 level,.int .i64 a,.int .i64 b] w fun e w'=>e=.returned (.int .i64 7)∧Below w.heap.size w w':=by
 obtain⟨_,_,_,_,hn,_,_⟩:=labels_of hok.labels
 obtain⟨lv,hlv1,hlv2⟩:=okL_nat' hn hlv
 obtain rfl:level=lv:=by omega
 have HLB:=hide (fun w'=>rlabel_any c v level w')
 have HCE:=hide (fun (w':World) (hb:Below w.heap.size w w')=>rcells_no c v rows rv av g level a b w' (hdoc.below hb) hok hlv2 hno)
 obtain⟨q0,q1,q2,q3⟩:=hdoc.box.cells
 rw [hlv] at HLB
 unfold cfgCells at HLB
 clear hlv hdoc hok hno hn hlv1
 go_enter Tryz.func133,Tryz.ntmps133
 go_wp2_with fail
 refine (HLB.out _).mono ?_
 rintro e w1 ⟨rfl,hb1⟩
 go_wp2_with fail
 refine (HCE.out _ hb1).mono ?_
 rintro e w2 ⟨rfl,hb2⟩
 have hb:=hb1.trans (hb2.mono hb1.size)
 clear hb1 hb2 q0 q1 q2 q3
 go_wp2
 go_ret
 exact⟨rfl,hb⟩
theorem rdelete_ok (w0 w:World) (g:Nat) (c:Cfg) (v:CfgV) (rows:List (RC × Value)) (acts:List RA) (rv av:Value) (level a b:Nat) (hdoc:RDocO w0 w g c v rows acts rv av) (hok:RDocOk c rows) (hlv:okL c.labels level=true) (hab:a<b) (hbl:b≤(placesR c (rows.map (·.1)) level).length)
  (hmk:∀ (i:Nat) (p:RC × Value),rows[i]?=some p→p.1.marks.length≤4000000000000) (hal:acts.length≤4000000000000) (hrc:(cellsTo c (rows.map (·.1)) level (placesR c (rows.map (·.1)) level) a b).length≤1000000000000∧∀ r,r ∈ cellsTo c (rows.map (·.1)) level (placesR c (rows.map (·.1)) level) a b→r<rows.length) :
  Calls Tryz.prog 133 #[.pointer (some ⟨g,0,none⟩),.int .i64 level,.int .i64 a,.int .i64 b] w
   fun e w'=>e=.returned (.int .i64 0)∧∃ rows' av',RDocO w0 w' g c v rows' (acts++[⟨2,level,level,0⟩]) rv av'∧rows'.map (·.1)=markAll (rows.map (·.1)) (cellsTo c (rows.map (·.1)) level (placesR c (rows.map (·.1)) level) a b) ⟨2,level,0⟩∧Only (fun k=>∃ s,blkOf' g rv av rows s=some k) w w'∧(∀ s b,blkOf' g rv av' rows' s=some b→(∃ s,blkOf' g rv av rows s=some b)∨w.heap.size≤b):=by
 obtain⟨_,_,_,_,hn,_,_⟩:=labels_of hok.labels
 obtain⟨lv,hlv1,hlv2⟩:=okL_nat' hn hlv
 obtain rfl:level=lv:=by omega
 obtain⟨hp1,hp2⟩:=places_of hok level
 have HLB:=hide (fun w'=>rlabel_any c v level w')
 have HCE:=hide (fun (w':World) (hb:Below w.heap.size w w')=>rcells_ok c v rows rv av g level a b w' (hdoc.read.below hb) hok hlv2 hab hbl hp1 (fun p hp=>⟨(hp2 p hp).le,(hp2 p hp).lt⟩))
 have HDOC:=hide hdoc
 obtain⟨q0,q1,q2,q3⟩:=hdoc.box.cells
 rw [hlv] at HLB
 unfold cfgCells at HLB
 have HRC:=hide hrc
 have HMK:=hide hmk
 generalize cellsTo c (rows.map (·.1)) level (placesR c (rows.map (·.1)) level) a b=L at *
 clear hlv hdoc hok hn hlv1 hp1 hp2 hbl hrc hmk
 go_enter Tryz.func133,Tryz.ntmps133
 go_wp2_with fail
 refine (HLB.out _).mono ?_
 rintro e w1 ⟨rfl,hb1⟩
 go_wp2_with fail
 refine (HCE.out _ hb1).mono ?_
 rintro e w2 ⟨vl,rfl,hvl,hb2⟩
 have hbw:=hb1.trans (hb2.mono hb1.size)
 have HD2:=hide (HDOC.out.drop hbw)
 have HVL:=hide hvl
 have hsz1:=hb1.size
 clear hb1 hb2 q0 q1 q2 q3 hvl
 obtain⟨lao,lcap,hvv⟩:=HVL.out.shape
 subst hvv
 have HMA:Hid (Calls Tryz.prog 160 #[.pointer (some ⟨g,0,none⟩),.slice lao L.length lcap,.agg #[.int .i64 2,.int .i64 level,.int .i64 0]] w2
   fun e w'=>e=.returned (.tuple #[])∧∃ rows',RDocO w0 w' g c v rows' acts rv av∧rows'.map (·.1)=markAll (rows.map (·.1)) L ⟨2,level,0⟩∧Only (fun k=>∃ s,blkOf' g rv av rows s=some k) w2 w'∧(∀ s b,blkOf' g rv av rows' s=some b→(∃ s,blkOf' g rv av rows s=some b)∨w2.heap.size≤b)):=by
  by_cases hL0:L.length=0
  ·exact rmark_any w0 w2 g c v rows acts rv av L lao 0 lcap ⟨2,level,0⟩ HD2.out (Or.inl (List.eq_nil_of_length_eq_zero hL0)) (fun h=>absurd (List.eq_nil_of_length_eq_zero hL0) h) (fun h=>absurd (List.eq_nil_of_length_eq_zero hL0) h) (fun k r h=>by rw [List.eq_nil_of_length_eq_zero hL0] at h;simp at h) (by omega) (fun i p hp=>by have:=HMK.out i p hp;omega)
  ·obtain⟨lb,lc,hvv,hlb1,hlb2⟩:=HVL.out.form (by omega)
   simp only [Value.slice.injEq] at hvv
   obtain⟨rfl,_,rfl⟩:=hvv
   refine rmark_any w0 w2 g c v rows acts rv av L _ lb lcap ⟨2,level,0⟩ HD2.out (Or.inr rfl) (fun _=>hlb2) (fun _ s hs=>?_) (fun k r h=>⟨?_,HRC.out.2 r (List.mem_of_getElem? h)⟩) (by have:=HRC.out.1;omega) (fun i p hp=>by have:=HMK.out i p hp;have:=HRC.out.1;omega)
   ·have:=(HDOC.out.parts.low s lb hs).2
    omega
   ·have:=HVL.out.cell (show ∀ a,(intV a).length=1 from fun _=>rfl) rfl h (j:=0) Nat.zero_lt_one
    simpa [intV] using this
 go_wp2_with fail
 refine (HMA.out).mono ?_
 rintro e w3 ⟨rfl,rows',hd3,hm3,ho3,hf3⟩
 have HD3:=hide hd3
 have HM3:=hide hm3
 have HO3:=hide ((Only.of_below (F:=fun k=>∃ s,blkOf' g rv av rows s=some k) hbw).trans ho3 (fun k h=>Or.inl h))
 have HF3:=hide (show ∀ s b,blkOf' g rv av rows' s=some b→(∃ s,blkOf' g rv av rows s=some b)∨w.heap.size≤b from fun s b hb=>(hf3 s b hb).imp id (fun h=>by have:=hbw.size;omega))
 have t5:=hd3.box.acts
 have hgl:=hd3.box.lt
 have hbA:Below w3.heap.size w3 (w3.alloc (.cells #[.int .i64 2,.int .i64 level,.int .i64 level,.int .i64 0] 225)):=below_box w3 _
 have HOA:=hide (hd3.acts.below hbA)
 have HNA:=hide (Go.heap_alloc_new w3 (.cells #[.int .i64 2,.int .i64 level,.int .i64 level,.int .i64 0] 225))
 have HAG:=hide (show ∀ b,av.ownBlock=some b→b≠g from fun b hb e=>by subst e;cases HD3.out.parts.apart .box .acts b rfl hb)
 have HBX3:=hide hd3.box
 have hB0:=hd3.old.size
 clear hd3 hm3 ho3 hf3
 go_wp2_with (at_builtin;refine wpList_push rfl (.tmp 37) (.tmp 41) 151 rfl (.agg #[.int .i64 0,.int .i64 0,.int .i64 0,.int .i64 0]) 32 Tryz.underlying151 Tryz.infoRAct rfl (by decide) rfl HOA.out w3.heap.size 1 ⟨2,level,level,0⟩ rfl 225 (0,0) HNA.out rfl (by intro u hu;simp [actV] at hu;rcases hu with rfl|rfl|rfl <;> rfl) (by omega) (by decide) (by simp;omega) (w3.heap.size+1) (by simp) ?_;intro g6 cap6 w6 hown6 hgrow6 hat6 hlt6;have z5:=(hgrow6.cell_far ⟨g,5,none⟩ (by simp;omega) (fun e=>HAG.out _ e.symm rfl)).trans ((hbA.cell (p:=⟨g,5,none⟩) hgl).trans t5);have z7:w6.frozen? ⟨g,5,none⟩=false:=by (rw [hgrow6.frozen_far ⟨g,5,none⟩ (by simp;omega) (fun e=>HAG.out _ e.symm rfl)];exact frozen_of_row _ _ _ _ _ (row_alloc' HBX3.out)))
 obtain⟨n1,n2,n3⟩:=actStep HD3.out hbA hown6 hgrow6 (by have h:av.ownBlock=some g6∨g6=w3.heap.size+1:=hat6;simpa using h) hlt6
 go_ret
 exact⟨rfl,rows',_,n1,HM3.out,HO3.out.trans n2 (fun b ⟨s,hs⟩=>HF3.out s b hs),fun s b hb=>by
  rcases n3 s b hb with⟨s',hs⟩|h
  ·exact HF3.out s' b hs
  ·right;have:=HO3.out.size;omega⟩
end Go.Proofs.YtgigkiocdiffjaaGreat
