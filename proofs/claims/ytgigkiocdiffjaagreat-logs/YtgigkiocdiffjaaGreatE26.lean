import Derived.Test.YtgigkiocdiffjaaGreatE23
import Derived.Test.YtgigkiocdiffjaaGreatE07
import Derived.Deep.RegionHeld
set_option maxRecDepth 100000
set_option maxHeartbeats 16000000
namespace Go.Proofs.YtgigkiocdiffjaaGreat
open Go.RowKit Veil
theorem looks_lists (g:Nat) (cs ds sv rv nv:Value) (S R N:List Value) (w:World) (h:w.heap[g]?=some (.cells #[cs,ds,sv,rv,nv] 55 (0,0))) (hS:SeqV 1 oneV w sv S) (hR:SeqV 1 oneV w rv R) (hN:SeqV 1 oneV w nv N) (hSn:S.length≤5300000000000) (hRn:R.length≤5300000000000) (hNn:N.length≤5300000000000)
  (hAS:∀ (i:Nat) (v:Value),S[i]?=some v→∃ n,n≤20000∧SeqV 3 s3V w v (List.replicate n (mark3 (i-i % 3)))) (hAR:∀ (i:Nat) (v:Value),R[i]?=some v→∃ n,n≤20000∧SeqV 3 recV w v (List.replicate n (markR (i-i % 3)))) (hAN:∀ (i:Nat) (v:Value),N[i]?=some v→∃ n,n≤20000∧SeqV 2 noV w v (List.replicate n (markN (i-i % 3)))) :
  Calls Tryz.prog 19 #[.pointer (some ⟨g,0,none⟩)] w fun e w'=>e=.returned (.bool true)∧Below w.heap.size w w':=by
 obtain⟨sao,scap,sb,rfl,hsao,hsc⟩:=hS
 obtain⟨rao,rcap,rb,rfl,hrao,hrc⟩:=hR
 obtain⟨nao,ncap,nb,rfl,hnao,hnc⟩:=hN
 have h2:w.cell? ⟨g,2,none⟩=some (.slice sao S.length scap):=(cell_of_row _ _ _ _ _ _ h).trans rfl
 have h3:w.cell? ⟨g,3,none⟩=some (.slice rao R.length rcap):=(cell_of_row _ _ _ _ _ _ h).trans rfl
 have h4:w.cell? ⟨g,4,none⟩=some (.slice nao N.length ncap):=(cell_of_row _ _ _ _ _ _ h).trans rfl
 have hgl:=lt_of_row h
 have HAS:=hide hAS
 have HAR:=hide hAR
 have HAN:=hide hAN
 have HSCS:=hide hsc
 have HSAS:=hide hsao
 have HSCR:=hide hrc
 have HSAR:=hide hrao
 have HSCN:=hide hnc
 have HSAN:=hide hnao
 have hbs1:=Below.refl w.heap.size w
 clear h hAS hAR hAN hsc hsao hrc hrao hnc hnao
 go_enter Tryz.func19,Tryz.ntmps19
 have HMS:=hide (fun (n:Nat) (w':World) (hn:n≤6000000000000)=>mark_span n w' hn)
 have HMR:=hide (fun (n:Nat) (w':World) (hn:n≤6000000000000)=>mark_record n w' hn)
 have HMN:=hide (fun (n:Nat) (w':World) (hn:n≤6000000000000)=>mark_notice n w' hn)
 go_wp2
 go_loopw [3] (fun i wr=>∃ k:Nat,k≤S.length∧i=.int .i64 k∧Below w.heap.size w wr) (fun i _=>S.length-(intOf i).toNat)
 case atStart=>exact⟨0,Nat.zero_le _,rfl,hbs1⟩
 case round=>
  obtain⟨wo,rfl⟩:∃ x,x=wr:=⟨_,rfl⟩
  obtain⟨k,hk,rfl,hbo⟩:=hrel
  have q2:wo.cell? ⟨g,2,none⟩=some (.slice sao S.length scap):=(hbo.cell (p:=⟨g,2,none⟩) hgl).trans h2
  by_cases hkl:k<S.length
  ·have hg:S[k]?=some S[k]:=List.getElem?_eq_getElem hkl
   obtain⟨n,hn,hV⟩:=HAS.out k _ hg
   obtain⟨rfl,hsb⟩:sao=some ⟨sb,0,none⟩∧sb<w.heap.size:=HSAS.out.resolve_left (fun e=>by rw [e] at hkl;simp at hkl)
   have c0:=HSCS.out k _ hg 0 (by omega)
   generalize S[k]=v at *
   obtain⟨vao,vcap,vb,rfl,hvao,hvc⟩:=hV
   rw [List.length_replicate] at c0
   have c0':w.cell? ⟨sb,k,none⟩=some (.slice vao n vcap):=by simpa [oneV] using c0
   have HVA:=hide hvao
   have HVC:=hide hvc
   have hki:(k:Int)<(S.length:Int):=by omega
   clear hg c0 hvao hvc
   go_wp2
   go_loopw [4] (fun j wr=>∃ m:Nat,m≤n∧j=.int .i64 m∧Below w.heap.size w wr) (fun j _=>n-(intOf j).toNat)
   case atStart=>exact⟨0,Nat.zero_le _,rfl,hbo⟩
   case round=>
    obtain⟨wi,rfl⟩:∃ x,x=wr:=⟨_,rfl⟩
    obtain⟨m,hm,rfl,hbi⟩:=hrel
    have p2:wi.cell? ⟨g,2,none⟩=some (.slice (some ⟨sb,0,none⟩) S.length scap):=(hbi.cell (p:=⟨g,2,none⟩) hgl).trans h2
    have p5:wi.cell? ⟨sb,k,none⟩=some (.slice vao n vcap):=(hbi.cell (p:=⟨sb,k,none⟩) hsb).trans c0'
    by_cases hml:m<n
    ·obtain⟨rfl,hvb⟩:vao=some ⟨vb,0,none⟩∧vb<w.heap.size:=HVA.out.resolve_left (fun e=>by have:=congrArg List.length e;simp at this;omega)
     have hgm:(List.replicate n (mark3 (k-k % 3)))[m]?=some (mark3 (k-k % 3)):=by simp [hml]
     have d0:=(hbi.cell (p:=⟨vb,m*3+0,none⟩) hvb).trans (HVC.out m _ hgm 0 (by omega))
     have d1:=(hbi.cell (p:=⟨vb,m*3+1,none⟩) hvb).trans (HVC.out m _ hgm 1 (by omega))
     have d2:=(hbi.cell (p:=⟨vb,m*3+2,none⟩) hvb).trans (HVC.out m _ hgm 2 (by omega))
     obtain⟨r,hr⟩:∃ r,r=k-k % 3:=⟨_,rfl⟩
     obtain⟨q,hq⟩:∃ q,q=k % 3:=⟨_,rfl⟩
     have hrm:Int.tmod (k:Int) 3=(q:Int):=by rw [Int.tmod_eq_emod_of_nonneg (by omega)];omega
     have hrs:(k:Int)-(q:Int)=(r:Int):=by omega
     rw [← hr] at d0 d1 d2
     simp only [s3V,mark3,Nat.add_zero,List.getElem?_cons_zero,List.getElem?_cons_succ] at d0 d1 d2
     have hmi:(m:Int)<(n:Int):=by omega
     have HR:=hide hr
     have hrb:r≤6000000000000:=by omega
     have hgi:g<wi.heap.size:=Nat.lt_of_lt_of_le hgl hbi.size
     have hsi:sb<wi.heap.size:=Nat.lt_of_lt_of_le hsb hbi.size
     have hvi:vb<wi.heap.size:=Nat.lt_of_lt_of_le hvb hbi.size
     have HM1:=hide (HMS.out r wi.drew hrb)
     have hws:IntKind.i64.wrap (r:Int)=(r:Int):=by rw [IntKind.wrap_i64];omega
     clear hgm hr hq
     go_wp2_with fail
     refine wp_region_held_drew (S:=(fun w'=>w'.cell? ⟨g,2,none⟩=some (.slice (some ⟨sb,0,none⟩) S.length scap)∧w'.cell? ⟨sb,k,none⟩=some (.slice (some ⟨vb,0,none⟩) n vcap)∧w'.cell? ⟨vb,m*3,none⟩=some (.int .i64 (-1000-r))∧w'.cell? ⟨vb,m*3+1,none⟩=some (.int .i64 (-1000-r))∧w'.cell? ⟨vb,m*3+2,none⟩=some (.int .i64 (-1000-r)))) (by kernel_rfl) ?_ (fun hHeld=>?_)
     ·(try dsimp only);go_keep
     refine tV 0 30 ?_
     (try simp only [Act.put,lA,lZ,lS])
     refine tV 1 31 ?_
     (try simp only [Act.put,lA,lZ,lS])
     refine tV 2 32 ?_
     (try simp only [Act.put,lA,lZ,lS])
     refine tV 3 33 ?_
     (try simp only [Act.put,lA,lZ,lS])
     refine tV 4 34 ?_
     (try simp only [Act.put,lA,lZ,lS])
     refine tV 5 35 ?_
     (try simp only [Act.put,lA,lZ,lS])
     refine tV 6 36 ?_
     (try simp only [Act.put,lA,lZ,lS])
     refine tV 7 37 ?_
     (try simp only [Act.put,lA,lZ,lS])
     refine tV 8 38 ?_
     (try simp only [Act.put,lA,lZ,lS])
     refine tV 9 39 ?_
     (try simp only [Act.put,lA,lZ,lS])
     refine tV 10 40 ?_
     (try simp only [Act.put,lA,lZ,lS])
     refine tV 11 41 ?_
     (try simp only [Act.put,lA,lZ,lS])
     refine tV 12 42 ?_
     (try simp only [Act.put,lA,lZ,lS])
     refine tV 13 43 ?_
     (try simp only [Act.put,lA,lZ,lS])
     refine wpAnyH_ready (rs:=[14]) (by kernel_rfl) (by simp) ?_
     refine AllReadyH.cons rfl (fun K hK=>?_) AllReadyH.nil
     go_simp
     go_wp2_with (go_at_call 44;refine (HM1.out).mono ?_;rintro e w5 ⟨rfl,hb5⟩;have u2:=(hb5.cell (p:=⟨g,2,none⟩) hgi).trans p2;have u5:=(hb5.cell (p:=⟨sb,k,none⟩) hsi).trans p5;have u6:=(hb5.cell (p:=⟨vb,m*3,none⟩) hvi).trans d0;have u7:=(hb5.cell (p:=⟨vb,m*3+1,none⟩) hvi).trans d1;have u8:=(hb5.cell (p:=⟨vb,m*3+2,none⟩) hvi).trans d2)
     refine hK.out _ _ ?_ (fun hHeld=>?_)
     ·(try dsimp only);go_keep
     clear hK K
     refine tV 15 45 ?_
     (try simp only [Act.put,lA,lZ,lS])
     refine wpAnyH_done (by kernel_rfl) ?_ _
     have hb6:=hbi.drew.trans (hb5.mono hbi.drew.size)
     go_wp2
     go_roundw
     case rel=>exact⟨m+1,by omega,by go_num,hb6⟩
     case measure=>simp [intOf];omega
    ·obtain rfl:m=n:=by omega
     have hmc:decide ((m:Int)<(m:Int))=false:=by simp
     go_wp2
     go_roundw
     case rel=>exact⟨k+1,by omega,by go_num,hbi⟩
     case measure=>simp [intOf];omega
  ·obtain rfl:k=S.length:=by omega
   have hkc:decide ((S.length:Int)<(S.length:Int))=false:=by simp
   have hbs2:=hbo
   go_wp2
   go_loopw [5] (fun i wr=>∃ k:Nat,k≤R.length∧i=.int .i64 k∧Below w.heap.size w wr) (fun i _=>R.length-(intOf i).toNat)
   case atStart=>exact⟨0,Nat.zero_le _,rfl,hbs2⟩
   case round=>
    obtain⟨wo,rfl⟩:∃ x,x=wr:=⟨_,rfl⟩
    obtain⟨k,hk,rfl,hbo⟩:=hrel
    have q2:wo.cell? ⟨g,3,none⟩=some (.slice rao R.length rcap):=(hbo.cell (p:=⟨g,3,none⟩) hgl).trans h3
    by_cases hkl:k<R.length
    ·have hg:R[k]?=some R[k]:=List.getElem?_eq_getElem hkl
     obtain⟨n,hn,hV⟩:=HAR.out k _ hg
     obtain⟨rfl,hsb⟩:rao=some ⟨rb,0,none⟩∧rb<w.heap.size:=HSAR.out.resolve_left (fun e=>by rw [e] at hkl;simp at hkl)
     have c0:=HSCR.out k _ hg 0 (by omega)
     generalize R[k]=v at *
     obtain⟨vao,vcap,vb,rfl,hvao,hvc⟩:=hV
     rw [List.length_replicate] at c0
     have c0':w.cell? ⟨rb,k,none⟩=some (.slice vao n vcap):=by simpa [oneV] using c0
     have HVA:=hide hvao
     have HVC:=hide hvc
     have hki:(k:Int)<(R.length:Int):=by omega
     clear hg c0 hvao hvc
     go_wp2
     go_loopw [6] (fun j wr=>∃ m:Nat,m≤n∧j=.int .i64 m∧Below w.heap.size w wr) (fun j _=>n-(intOf j).toNat)
     case atStart=>exact⟨0,Nat.zero_le _,rfl,hbo⟩
     case round=>
      obtain⟨wi,rfl⟩:∃ x,x=wr:=⟨_,rfl⟩
      obtain⟨m,hm,rfl,hbi⟩:=hrel
      have p2:wi.cell? ⟨g,3,none⟩=some (.slice (some ⟨rb,0,none⟩) R.length rcap):=(hbi.cell (p:=⟨g,3,none⟩) hgl).trans h3
      have p5:wi.cell? ⟨rb,k,none⟩=some (.slice vao n vcap):=(hbi.cell (p:=⟨rb,k,none⟩) hsb).trans c0'
      by_cases hml:m<n
      ·obtain⟨rfl,hvb⟩:vao=some ⟨vb,0,none⟩∧vb<w.heap.size:=HVA.out.resolve_left (fun e=>by have:=congrArg List.length e;simp at this;omega)
       have hgm:(List.replicate n (markR (k-k % 3)))[m]?=some (markR (k-k % 3)):=by simp [hml]
       have d0:=(hbi.cell (p:=⟨vb,m*3+0,none⟩) hvb).trans (HVC.out m _ hgm 0 (by omega))
       have d1:=(hbi.cell (p:=⟨vb,m*3+1,none⟩) hvb).trans (HVC.out m _ hgm 1 (by omega))
       have d2:=(hbi.cell (p:=⟨vb,m*3+2,none⟩) hvb).trans (HVC.out m _ hgm 2 (by omega))
       obtain⟨r,hr⟩:∃ r,r=k-k % 3:=⟨_,rfl⟩
       obtain⟨q,hq⟩:∃ q,q=k % 3:=⟨_,rfl⟩
       have hrm:Int.tmod (k:Int) 3=(q:Int):=by rw [Int.tmod_eq_emod_of_nonneg (by omega)];omega
       have hrs:(k:Int)-(q:Int)=(r:Int):=by omega
       rw [← hr] at d0 d1 d2
       simp only [recV,markR,Nat.add_zero,List.getElem?_cons_zero,List.getElem?_cons_succ] at d0 d1 d2
       have hmi:(m:Int)<(n:Int):=by omega
       have HR:=hide hr
       have hrb:r≤6000000000000:=by omega
       have hgi:g<wi.heap.size:=Nat.lt_of_lt_of_le hgl hbi.size
       have hsi:rb<wi.heap.size:=Nat.lt_of_lt_of_le hsb hbi.size
       have hvi:vb<wi.heap.size:=Nat.lt_of_lt_of_le hvb hbi.size
       have HM1:=hide (HMR.out r wi.drew hrb)
       have hws:IntKind.i64.wrap (r:Int)=(r:Int):=by rw [IntKind.wrap_i64];omega
       clear hgm hr hq
       go_wp2_with fail
       refine wp_region_held_drew (S:=(fun w'=>w'.cell? ⟨g,3,none⟩=some (.slice (some ⟨rb,0,none⟩) R.length rcap)∧w'.cell? ⟨rb,k,none⟩=some (.slice (some ⟨vb,0,none⟩) n vcap)∧w'.cell? ⟨vb,m*3,none⟩=some (.int .i64 (-1000-r))∧w'.cell? ⟨vb,m*3+1,none⟩=some (.int .i64 (-1000-r))∧w'.cell? ⟨vb,m*3+2,none⟩=some (.int .i64 (-1000-r)))) (by kernel_rfl) ?_ (fun hHeld=>?_)
       ·(try dsimp only);go_keep
       refine tV 0 67 ?_
       (try simp only [Act.put,lA,lZ,lS])
       refine tV 1 68 ?_
       (try simp only [Act.put,lA,lZ,lS])
       refine tV 2 69 ?_
       (try simp only [Act.put,lA,lZ,lS])
       refine tV 3 70 ?_
       (try simp only [Act.put,lA,lZ,lS])
       refine tV 4 71 ?_
       (try simp only [Act.put,lA,lZ,lS])
       refine tV 5 72 ?_
       (try simp only [Act.put,lA,lZ,lS])
       refine tV 6 73 ?_
       (try simp only [Act.put,lA,lZ,lS])
       refine tV 7 74 ?_
       (try simp only [Act.put,lA,lZ,lS])
       refine tV 8 75 ?_
       (try simp only [Act.put,lA,lZ,lS])
       refine tV 9 76 ?_
       (try simp only [Act.put,lA,lZ,lS])
       refine tV 10 77 ?_
       (try simp only [Act.put,lA,lZ,lS])
       refine tV 11 78 ?_
       (try simp only [Act.put,lA,lZ,lS])
       refine tV 12 79 ?_
       (try simp only [Act.put,lA,lZ,lS])
       refine tV 13 80 ?_
       (try simp only [Act.put,lA,lZ,lS])
       refine wpAnyH_ready (rs:=[14]) (by kernel_rfl) (by simp) ?_
       refine AllReadyH.cons rfl (fun K hK=>?_) AllReadyH.nil
       go_simp
       go_wp2_with (go_at_call 45;refine (HM1.out).mono ?_;rintro e w5 ⟨rfl,hb5⟩;have u2:=(hb5.cell (p:=⟨g,3,none⟩) hgi).trans p2;have u5:=(hb5.cell (p:=⟨rb,k,none⟩) hsi).trans p5;have u6:=(hb5.cell (p:=⟨vb,m*3,none⟩) hvi).trans d0;have u7:=(hb5.cell (p:=⟨vb,m*3+1,none⟩) hvi).trans d1;have u8:=(hb5.cell (p:=⟨vb,m*3+2,none⟩) hvi).trans d2)
       refine hK.out _ _ ?_ (fun hHeld=>?_)
       ·(try dsimp only);go_keep
       clear hK K
       refine tV 15 82 ?_
       (try simp only [Act.put,lA,lZ,lS])
       refine wpAnyH_done (by kernel_rfl) ?_ _
       have hb6:=hbi.drew.trans (hb5.mono hbi.drew.size)
       go_wp2
       go_roundw
       case rel=>exact⟨m+1,by omega,by go_num,hb6⟩
       case measure=>simp [intOf];omega
      ·obtain rfl:m=n:=by omega
       have hmc:decide ((m:Int)<(m:Int))=false:=by simp
       go_wp2
       go_roundw
       case rel=>exact⟨k+1,by omega,by go_num,hbi⟩
       case measure=>simp [intOf];omega
    ·obtain rfl:k=R.length:=by omega
     have hkc:decide ((R.length:Int)<(R.length:Int))=false:=by simp
     have hbs3:=hbo
     go_wp2
     go_loopw [7] (fun i wr=>∃ k:Nat,k≤N.length∧i=.int .i64 k∧Below w.heap.size w wr) (fun i _=>N.length-(intOf i).toNat)
     case atStart=>exact⟨0,Nat.zero_le _,rfl,hbs3⟩
     case round=>
      obtain⟨wo,rfl⟩:∃ x,x=wr:=⟨_,rfl⟩
      obtain⟨k,hk,rfl,hbo⟩:=hrel
      have q2:wo.cell? ⟨g,4,none⟩=some (.slice nao N.length ncap):=(hbo.cell (p:=⟨g,4,none⟩) hgl).trans h4
      by_cases hkl:k<N.length
      ·have hg:N[k]?=some N[k]:=List.getElem?_eq_getElem hkl
       obtain⟨n,hn,hV⟩:=HAN.out k _ hg
       obtain⟨rfl,hsb⟩:nao=some ⟨nb,0,none⟩∧nb<w.heap.size:=HSAN.out.resolve_left (fun e=>by rw [e] at hkl;simp at hkl)
       have c0:=HSCN.out k _ hg 0 (by omega)
       generalize N[k]=v at *
       obtain⟨vao,vcap,vb,rfl,hvao,hvc⟩:=hV
       rw [List.length_replicate] at c0
       have c0':w.cell? ⟨nb,k,none⟩=some (.slice vao n vcap):=by simpa [oneV] using c0
       have HVA:=hide hvao
       have HVC:=hide hvc
       have hki:(k:Int)<(N.length:Int):=by omega
       clear hg c0 hvao hvc
       go_wp2
       go_loopw [8] (fun j wr=>∃ m:Nat,m≤n∧j=.int .i64 m∧Below w.heap.size w wr) (fun j _=>n-(intOf j).toNat)
       case atStart=>exact⟨0,Nat.zero_le _,rfl,hbo⟩
       case round=>
        obtain⟨wi,rfl⟩:∃ x,x=wr:=⟨_,rfl⟩
        obtain⟨m,hm,rfl,hbi⟩:=hrel
        have p2:wi.cell? ⟨g,4,none⟩=some (.slice (some ⟨nb,0,none⟩) N.length ncap):=(hbi.cell (p:=⟨g,4,none⟩) hgl).trans h4
        have p5:wi.cell? ⟨nb,k,none⟩=some (.slice vao n vcap):=(hbi.cell (p:=⟨nb,k,none⟩) hsb).trans c0'
        by_cases hml:m<n
        ·obtain⟨rfl,hvb⟩:vao=some ⟨vb,0,none⟩∧vb<w.heap.size:=HVA.out.resolve_left (fun e=>by have:=congrArg List.length e;simp at this;omega)
         have hgm:(List.replicate n (markN (k-k % 3)))[m]?=some (markN (k-k % 3)):=by simp [hml]
         have d0:=(hbi.cell (p:=⟨vb,m*2+0,none⟩) hvb).trans (HVC.out m _ hgm 0 (by omega))
         have d1:=(hbi.cell (p:=⟨vb,m*2+1,none⟩) hvb).trans (HVC.out m _ hgm 1 (by omega))
         obtain⟨r,hr⟩:∃ r,r=k-k % 3:=⟨_,rfl⟩
         obtain⟨q,hq⟩:∃ q,q=k % 3:=⟨_,rfl⟩
         have hrm:Int.tmod (k:Int) 3=(q:Int):=by rw [Int.tmod_eq_emod_of_nonneg (by omega)];omega
         have hrs:(k:Int)-(q:Int)=(r:Int):=by omega
         rw [← hr] at d0 d1
         simp only [noV,markN,Nat.add_zero,List.getElem?_cons_zero,List.getElem?_cons_succ] at d0 d1
         have hmi:(m:Int)<(n:Int):=by omega
         have HR:=hide hr
         have hrb:r≤6000000000000:=by omega
         have hgi:g<wi.heap.size:=Nat.lt_of_lt_of_le hgl hbi.size
         have hsi:nb<wi.heap.size:=Nat.lt_of_lt_of_le hsb hbi.size
         have hvi:vb<wi.heap.size:=Nat.lt_of_lt_of_le hvb hbi.size
         have HM1:=hide (HMN.out r wi.drew hrb)
         have hws:IntKind.i64.wrap (r:Int)=(r:Int):=by rw [IntKind.wrap_i64];omega
         clear hgm hr hq
         go_wp2_with fail
         refine wp_region_held_drew (S:=(fun w'=>w'.cell? ⟨g,4,none⟩=some (.slice (some ⟨nb,0,none⟩) N.length ncap)∧w'.cell? ⟨nb,k,none⟩=some (.slice (some ⟨vb,0,none⟩) n vcap)∧w'.cell? ⟨vb,m*2,none⟩=some (.int .i64 (-1000-r))∧w'.cell? ⟨vb,m*2+1,none⟩=some (.int .i64 (-1000-r)))) (by kernel_rfl) ?_ (fun hHeld=>?_)
         ·(try dsimp only);go_keep
         refine tV 0 104 ?_
         (try simp only [Act.put,lA,lZ,lS])
         refine tV 1 105 ?_
         (try simp only [Act.put,lA,lZ,lS])
         refine tV 2 106 ?_
         (try simp only [Act.put,lA,lZ,lS])
         refine tV 3 107 ?_
         (try simp only [Act.put,lA,lZ,lS])
         refine tV 4 108 ?_
         (try simp only [Act.put,lA,lZ,lS])
         refine tV 5 109 ?_
         (try simp only [Act.put,lA,lZ,lS])
         refine tV 6 110 ?_
         (try simp only [Act.put,lA,lZ,lS])
         refine tV 7 111 ?_
         (try simp only [Act.put,lA,lZ,lS])
         refine tV 8 112 ?_
         (try simp only [Act.put,lA,lZ,lS])
         refine tV 9 113 ?_
         (try simp only [Act.put,lA,lZ,lS])
         refine tV 10 114 ?_
         (try simp only [Act.put,lA,lZ,lS])
         refine tV 11 115 ?_
         (try simp only [Act.put,lA,lZ,lS])
         refine tV 12 116 ?_
         (try simp only [Act.put,lA,lZ,lS])
         refine tV 13 117 ?_
         (try simp only [Act.put,lA,lZ,lS])
         refine wpAnyH_ready (rs:=[14]) (by kernel_rfl) (by simp) ?_
         refine AllReadyH.cons rfl (fun K hK=>?_) AllReadyH.nil
         go_simp
         go_wp2_with (go_at_call 46;refine (HM1.out).mono ?_;rintro e w5 ⟨rfl,hb5⟩;have u2:=(hb5.cell (p:=⟨g,4,none⟩) hgi).trans p2;have u5:=(hb5.cell (p:=⟨nb,k,none⟩) hsi).trans p5;have u6:=(hb5.cell (p:=⟨vb,m*2,none⟩) hvi).trans d0;have u7:=(hb5.cell (p:=⟨vb,m*2+1,none⟩) hvi).trans d1)
         refine hK.out _ _ ?_ (fun hHeld=>?_)
         ·(try dsimp only);go_keep
         clear hK K
         refine tV 15 119 ?_
         (try simp only [Act.put,lA,lZ,lS])
         refine wpAnyH_done (by kernel_rfl) ?_ _
         have hb6:=hbi.drew.trans (hb5.mono hbi.drew.size)
         go_wp2
         go_roundw
         case rel=>exact⟨m+1,by omega,by go_num,hb6⟩
         case measure=>simp [intOf];omega
        ·obtain rfl:m=n:=by omega
         have hmc:decide ((m:Int)<(m:Int))=false:=by simp
         go_wp2
         go_roundw
         case rel=>exact⟨k+1,by omega,by go_num,hbi⟩
         case measure=>simp [intOf];omega
      ·obtain rfl:k=N.length:=by omega
       have hkc:decide ((N.length:Int)<(N.length:Int))=false:=by simp
       go_wp2
       go_ret
       exact⟨rfl,hbo⟩
end Go.Proofs.YtgigkiocdiffjaaGreat
