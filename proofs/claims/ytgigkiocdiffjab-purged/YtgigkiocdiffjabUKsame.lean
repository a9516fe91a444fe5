import Derived.Test.YtgigkiocdiffjabU17
set_option maxRecDepth 100000
set_option maxHeartbeats 16000000
namespace Go.Proofs.Ytgigkiocdiffjab
open Go.RowKit Veil
theorem ksame_eq (e n:Int) (s:ByteArray) (l:List Int) (vl vl':Value) (B B':Nat) (w:World) (hv:OwnL 3 1 inV w B vl l) (hv':OwnL 3 1 inV w B' vl' l) (hl:l.length≤1000000) :
  Calls Try.prog 19 #[.agg (toldC e n s vl),.agg (toldC e n s vl')] w fun e w'=>e=.returned (.bool true)∧Below w.heap.size w w':=by
 obtain⟨ao,cap,b,rfl,hao,hc⟩:=OwnL.seqV (f:=inV) (fun _=>rfl) hv
 obtain⟨ao',cap',b',rfl,hao',hc'⟩:=OwnL.seqV (f:=inV) (fun _=>rfl) hv'
 clear hv hv'
 have HA:=hide hao
 have HC:=hide hc
 have HA':=hide hao'
 have HC':=hide hc'
 clear hao hc hao' hc'
 unfold toldC
 generalize hW2:(w.alloc (.cells #[.int .i64 e,.int .i64 n,.string s,.slice ao l.length cap] 37)).alloc (.cells #[.int .i64 e,.int .i64 n,.string s,.slice ao' l.length cap'] 37)=W2
 have hb0:Below w.heap.size w W2:=by
  rw [← hW2];exact ((Below.refl _ _).alloc (Nat.le_refl _) _).alloc (by simp) _
 have hs2:W2.heap.size=w.heap.size+2:=by rw [← hW2];simp
 have q1:W2.heap[w.heap.size]?=some (.cells #[.int .i64 e,.int .i64 n,.string s,.slice ao l.length cap] 37 (0,0)):=by
  rw [← hW2,Below.heap_alloc _ _ _ (by simp)];exact Go.heap_alloc_new w _
 have q2:W2.heap[w.heap.size+1]?=some (.cells #[.int .i64 e,.int .i64 n,.string s,.slice ao' l.length cap'] 37 (0,0)):=by
  have:=Go.heap_alloc_new (w.alloc (.cells #[.int .i64 e,.int .i64 n,.string s,.slice ao l.length cap] 37)) (.cells #[.int .i64 e,.int .i64 n,.string s,.slice ao' l.length cap'] 37)
  rw [show (w.alloc (.cells #[.int .i64 e,.int .i64 n,.string s,.slice ao l.length cap] 37)).heap.size=w.heap.size+1 by simp,hW2] at this
  exact this
 have Q1:=hide q1
 have Q2:=hide q2
 have HB0:=hide hb0
 have HS2:=hide hs2
 have HW2:=hide hW2
 clear q1 q2 hb0 hs2 hW2
 go_enter Try.func19,Try.ntmps19
 go_wp2
 go_loopw [5] (fun i wr=>∃ k:Nat,k≤l.length∧i=.int .i64 k∧Below W2.heap.size W2 wr) (fun i _=>l.length-(intOf i).toNat)
 case atStart=>exact⟨0,Nat.zero_le _,rfl,by rw [← HW2.out];exact Below.refl _ _⟩
 case round=>
  obtain⟨wo,rfl⟩:∃ x,x=wr:=⟨_,rfl⟩
  obtain⟨k,hk,rfl,hbel⟩:=hrel
  have r1:=(hbel.block _ (by rw [HS2.out];omega)).trans Q1.out
  have r2:=(hbel.block _ (by rw [HS2.out];omega)).trans Q2.out
  have t1:wo.cell? ⟨w.heap.size,3,none⟩=some (.slice ao l.length cap):=(cell_of_row _ _ _ _ _ _ r1).trans rfl
  have t2:wo.cell? ⟨w.heap.size+1,3,none⟩=some (.slice ao' l.length cap'):=(cell_of_row _ _ _ _ _ _ r2).trans rfl
  clear r1 r2
  by_cases hlt:k<l.length
  ·have hg:l[k]?=some l[k]:=List.getElem?_eq_getElem hlt
   obtain⟨rfl,hbl⟩:ao=some ⟨b,0,none⟩∧b<w.heap.size:=HA.out.resolve_left (fun e=>by rw [e] at hlt;simp at hlt)
   obtain⟨rfl,hbl'⟩:ao'=some ⟨b',0,none⟩∧b'<w.heap.size:=HA'.out.resolve_left (fun e=>by rw [e] at hlt;simp at hlt)
   have hbw:Below w.heap.size w wo:=HB0.out.trans (hbel.mono (by rw [HS2.out];omega))
   generalize hx:l[k]=x at *
   have c0:w.cell? ⟨b,k,none⟩=some (.int .i64 x):=by have:=HC.out k _ hg 0 (by omega);simpa [inV] using this
   have c1:w.cell? ⟨b',k,none⟩=some (.int .i64 x):=by have:=HC'.out k _ hg 0 (by omega);simpa [inV] using this
   have d0:=(hbw.cell (p:=⟨b,k,none⟩) hbl).trans c0
   have d1:=(hbw.cell (p:=⟨b',k,none⟩) hbl').trans c1
   have hki:(k:Int)<(l.length:Int):=by omega
   clear hg c0 c1 hx
   go_wp2
   go_quiet (fail)
   go_wp2
   go_roundw
   case rel=>exact⟨k+1,by omega,by go_num,hbel.trans ⟨rfl,rfl,rfl,Nat.le_refl _,fun _ _=>rfl⟩⟩
   case measure=>simp [intOf];omega
  ·obtain rfl:k=l.length:=by omega
   have hkc:decide ((l.length:Int)<(l.length:Int))=false:=by simp
   go_wp2
   go_ret
   exact⟨rfl,HB0.out.trans (hbel.mono (by rw [HS2.out];omega))⟩
end Go.Proofs.Ytgigkiocdiffjab
