import Derived.Test.YtgigkiocdiffjaaGreatE12
set_option maxRecDepth 100000
set_option maxHeartbeats 16000000
namespace Go.Proofs.YtgigkiocdiffjaaGreat
open Go.RowKit Veil
structure Sp where
 kind:Nat
 lo:Nat
 hi:Nat
def spV (x:Sp):List Value:=[.int .i64 x.kind,.int .i64 x.lo,.int .i64 x.hi]
def bt (s:ByteArray) (j:Nat):Nat:=((bytes s).getD j 0).toNat
theorem bt_get (s:ByteArray) (j:Nat) (h:j<s.size):bt s j=s[j].toNat:=by
 have:(bytes s).getD j 0=s[j]:=by
  rw [← bytes_get s j h,List.getD,List.getElem?_eq_getElem (by rw [bytes_length];exact h)];rfl
 unfold bt;rw [this]
def spanF (s:ByteArray) (i:Nat):Sp:=
 bif bt s i == 32 then ⟨0,0,0⟩ else bif bt s i == 35 then ⟨3,i,i+1⟩ else bif kindN (bt s i) == 0 then ⟨4,i,i+1⟩ else
  bif decide (0<i) && (kindN (bt s (i-1)) == kindN (bt s i)) then ⟨0,0,0⟩ else
   bif kindN (bt s i) == 97 then ⟨1,i,fwdF (fun j=>kindN (bt s j) == kindN (bt s i)) s.size (s.size-i) i⟩ else ⟨2,i,fwdF (fun j=>kindN (bt s j) == kindN (bt s i)) s.size (s.size-i) i⟩
theorem Tryz.sizeSpan:(Tryz.prog.info? 94).map (·.size)=some 3:=by kernel_rfl
theorem rspan_any (s:ByteArray) (i:Nat) (w:World) (hi:i<s.size) (hs:s.size≤140737488355328) :
  Calls Tryz.prog 137 #[.string s,.int .i64 i] w fun e w'=>e=.returned (.agg (spV (spanF s i)).toArray)∧Below w.heap.size w w':=by
 have HKD:=hide (show ∀ (x k:Nat) (w':World),kindN x=k→Calls Tryz.prog 162 #[.int .u8 x] w' fun e w''=>e=.returned (.int .u8 k)∧w''=w' from fun x k w' h=>(rkind_any x w').mono fun e w'' ⟨h1,h2⟩=>⟨by rw [h1,h],h2.symm⟩)
 have hii:(i:Int)<(s.size:Int):=by omega
 have HB:=hide (bt_get s i hi)
 have hnew:=fun (a b c:Value)=>Go.heap_alloc_new w (.cells #[a,b,c] 94)
 have hbx:=fun (o:Obj)=>below_box w o
 have HNEW:=hide hnew
 have HBX:=hide hbx
 clear hnew hbx
 by_cases b1:s[i].toNat=32
 ·have HF:=hide (show spanF s i=⟨0,0,0⟩ by unfold spanF;rw [HB.out,b1];rfl)
  have b1':((s[i].toNat:Nat):Int)=32:=by omega
  clear b1
  go_enter Tryz.func137,Tryz.ntmps137
  go_wp2
  exact bodyPost_ret (results_cell_row Tryz.results137 _ _ w.heap.size 94 #[.int .i64 0,.int .i64 0,.int .i64 0] (0,0) _ (by simp) (HNEW.out _ _ _) Tryz.underlying94 rfl (by rw [Tryz.sizeSpan];rfl)) rfl ⟨by rw [HF.out];rfl,HBX.out _⟩
 by_cases b2:s[i].toNat=35
 ·have HF:=hide (show spanF s i=⟨3,i,i+1⟩ by unfold spanF;rw [HB.out,b2];rfl)
  have b1':(((s[i].toNat:Nat):Int) == 32)=false:=by simp;omega
  have b2':((s[i].toNat:Nat):Int)=35:=by omega
  clear b1 b2
  go_enter Tryz.func137,Tryz.ntmps137
  go_wp2
  exact bodyPost_ret (results_cell_row Tryz.results137 _ _ w.heap.size 94 #[.int .i64 3,.int .i64 i,.int .i64 ((i:Int)+1)] (0,0) _ (by simp) (HNEW.out _ _ _) Tryz.underlying94 rfl (by rw [Tryz.sizeSpan];rfl)) rfl ⟨by rw [HF.out];rfl,HBX.out _⟩
 have b1':(((s[i].toNat:Nat):Int) == 32)=false:=by simp;omega
 have b2':(((s[i].toNat:Nat):Int) == 35)=false:=by simp;omega
 have e1:(s[i].toNat == 32)=false:=by simpa using b1
 have e2:(s[i].toNat == 35)=false:=by simpa using b2
 generalize hK:kindN s[i].toNat=K at *
 have HK:=hide hK
 clear hK b1 b2
 cases hk0:((K:Int) == 0)
 ·have hk0':(K == 0)=false:=by simpa using (show ¬ K=0 by have:=hk0;simp at this;omega)
  by_cases hi0:0<i
  ·obtain⟨f,hf1,hf2⟩:∃ f:Nat,(i:Int)-1=(f:Int)∧i=f+1:=⟨i-1,by omega,by omega⟩
   have hfs:f<s.size:=by omega
   have hfi:(f:Int)<(s.size:Int):=by omega
   have HBF:=hide (show bt s (i-1)=s[f].toNat by rw [hf2,Nat.add_sub_cancel];exact bt_get s f hfs)
   have hip:(0:Int)<(i:Int):=by omega
   have HF2:=hide hf2
   clear hf2
   cases hkf:((kindN s[f].toNat:Int) == (K:Int))
   ·have HGD:=hide (show (decide (0<i) && (kindN (bt s (i-1)) == K))=false by
     have:(kindN s[f].toNat == K)=false:=by simpa using (show ¬ kindN s[f].toNat=K by have:=hkf;simp at this;omega)
     rw [HBF.out,this];simp)
    go_enter Tryz.func137,Tryz.ntmps137
    go_wp2_with fail
    refine (HKD.out (s[i].toNat) (K) _ HK.out).mono ?_
    rintro e w' ⟨rfl,rfl⟩
    go_wp2_with fail
    refine (HKD.out (s[f].toNat) (kindN s[f].toNat) _ rfl).mono ?_
    rintro e w' ⟨rfl,rfl⟩
    go_wp2
    go_loop [6] (fun o=>∃ u:Nat,i≤u∧u≤s.size∧o=.int .i64 u∧fwdF (fun j=>kindN (bt s j) == K) s.size (s.size-i) i=fwdF (fun j=>kindN (bt s j) == K) s.size (s.size-u) u) (fun o=>s.size-(intOf o).toNat)
    case atStart=>exact⟨i,Nat.le_refl _,by omega,rfl,rfl⟩
    case round=>
     obtain⟨u,hu1,hu2,rfl,hfw⟩:=hrel
     have HFW:=hide hfw
     clear hfw
     by_cases hul:u<s.size
     ·have hui:(u:Int)<(s.size:Int):=by omega
      have HBU:=hide (bt_get s u hul)
      cases hku:((kindN s[u].toNat:Int) == (K:Int))
      ·have hno:=hide (show (fun j=>kindN (bt s j) == K) u=false by
        have:(kindN s[u].toNat == K)=false:=by simpa using (show ¬ kindN s[u].toNat=K by have:=hku;simp at this;omega)
        simp only [HBU.out,this])
       have HU:=hide (show fwdF (fun j=>kindN (bt s j) == K) s.size (s.size-i) i=u by rw [HFW.out];exact fwdF_no hno.out)
       cases hk9:((K:Int) == 97)
       ·have hk9':(K == 97)=false:=by simpa using (show ¬ K=97 by have:=hk9;simp at this;omega)
        have HF:=hide (show spanF s i=⟨2,i,u⟩ by unfold spanF;rw [HB.out,e1,e2,HK.out,hk0',HGD.out,hk9',HU.out];rfl)
        go_wp2_with fail
        refine (HKD.out (s[u].toNat) (kindN s[u].toNat) _ rfl).mono ?_
        rintro e w' ⟨rfl,rfl⟩
        go_wp2
        exact bodyPost_ret (results_cell_row Tryz.results137 _ _ w.heap.size 94 #[.int .i64 2,.int .i64 i,.int .i64 u] (0,0) _ (by simp) (HNEW.out _ _ _) Tryz.underlying94 rfl (by rw [Tryz.sizeSpan];rfl)) rfl ⟨by rw [HF.out];rfl,HBX.out _⟩
       ·have hk9':(K == 97)=true:=by simpa using (show K=97 by have:=hk9;simp at this;omega)
        have HF:=hide (show spanF s i=⟨1,i,u⟩ by unfold spanF;rw [HB.out,e1,e2,HK.out,hk0',HGD.out,hk9',HU.out];rfl)
        go_wp2_with fail
        refine (HKD.out (s[u].toNat) (kindN s[u].toNat) _ rfl).mono ?_
        rintro e w' ⟨rfl,rfl⟩
        go_wp2
        exact bodyPost_ret (results_cell_row Tryz.results137 _ _ w.heap.size 94 #[.int .i64 1,.int .i64 i,.int .i64 u] (0,0) _ (by simp) (HNEW.out _ _ _) Tryz.underlying94 rfl (by rw [Tryz.sizeSpan];rfl)) rfl ⟨by rw [HF.out];rfl,HBX.out _⟩
      ·have hys:=hide (show (fun j=>kindN (bt s j) == K) u=true by
        have:(kindN s[u].toNat == K)=true:=by simpa using (show kindN s[u].toNat=K by have:=hku;simp at this;omega)
        simp only [HBU.out,this])
       have HU:=hide (show fwdF (fun j=>kindN (bt s j) == K) s.size (s.size-i) i=fwdF (fun j=>kindN (bt s j) == K) s.size (s.size-(u+1)) (u+1) by rw [HFW.out];exact fwdF_yes hul hys.out)
       go_wp2_with fail
       refine (HKD.out (s[u].toNat) (kindN s[u].toNat) _ rfl).mono ?_
       rintro e w' ⟨rfl,rfl⟩
       go_wp2
       go_round
       case rel=>exact⟨u+1,by omega,by omega,by go_num,HU.out⟩
       case measure=>simp [intOf];omega
     ·have HUE:=hide (show u=s.size by omega)
      have hud:decide ((u:Int)<(s.size:Int))=false:=by simp;omega
      have HU:=hide (show fwdF (fun j=>kindN (bt s j) == K) s.size (s.size-i) i=u by rw [HFW.out];exact (by rw [HUE.out];exact fwdF_end))
      cases hk9:((K:Int) == 97)
      ·have hk9':(K == 97)=false:=by simpa using (show ¬ K=97 by have:=hk9;simp at this;omega)
       have HF:=hide (show spanF s i=⟨2,i,u⟩ by unfold spanF;rw [HB.out,e1,e2,HK.out,hk0',HGD.out,hk9',HU.out];rfl)
       go_wp2
       exact bodyPost_ret (results_cell_row Tryz.results137 _ _ w.heap.size 94 #[.int .i64 2,.int .i64 i,.int .i64 u] (0,0) _ (by simp) (HNEW.out _ _ _) Tryz.underlying94 rfl (by rw [Tryz.sizeSpan];rfl)) rfl ⟨by rw [HF.out];rfl,HBX.out _⟩
      ·have hk9':(K == 97)=true:=by simpa using (show K=97 by have:=hk9;simp at this;omega)
       have HF:=hide (show spanF s i=⟨1,i,u⟩ by unfold spanF;rw [HB.out,e1,e2,HK.out,hk0',HGD.out,hk9',HU.out];rfl)
       go_wp2
       exact bodyPost_ret (results_cell_row Tryz.results137 _ _ w.heap.size 94 #[.int .i64 1,.int .i64 i,.int .i64 u] (0,0) _ (by simp) (HNEW.out _ _ _) Tryz.underlying94 rfl (by rw [Tryz.sizeSpan];rfl)) rfl ⟨by rw [HF.out];rfl,HBX.out _⟩
   ·have HGD:=hide (show (decide (0<i) && (kindN (bt s (i-1)) == K))=true by
     have:(kindN s[f].toNat == K)=true:=by simpa using (show kindN s[f].toNat=K by have:=hkf;simp at this;omega)
     rw [HBF.out,this];simp [hi0])
    have HF:=hide (show spanF s i=⟨0,0,0⟩ by unfold spanF;rw [HB.out,e1,e2,HK.out,hk0',HGD.out];rfl)
    go_enter Tryz.func137,Tryz.ntmps137
    go_wp2_with fail
    refine (HKD.out (s[i].toNat) (K) _ HK.out).mono ?_
    rintro e w' ⟨rfl,rfl⟩
    go_wp2_with fail
    refine (HKD.out (s[f].toNat) (kindN s[f].toNat) _ rfl).mono ?_
    rintro e w' ⟨rfl,rfl⟩
    go_wp2
    exact bodyPost_ret (results_cell_row Tryz.results137 _ _ w.heap.size 94 #[.int .i64 0,.int .i64 0,.int .i64 0] (0,0) _ (by simp) (HNEW.out _ _ _) Tryz.underlying94 rfl (by rw [Tryz.sizeSpan];rfl)) rfl ⟨by rw [HF.out];rfl,HBX.out _⟩
  ·have HGD:=hide (show (decide (0<i) && (kindN (bt s (i-1)) == K))=false by simp [hi0])
   have hip:decide ((0:Int)<(i:Int))=false:=by simp;omega
   go_enter Tryz.func137,Tryz.ntmps137
   go_wp2_with fail
   refine (HKD.out (s[i].toNat) (K) _ HK.out).mono ?_
   rintro e w' ⟨rfl,rfl⟩
   go_wp2
   go_loop [6] (fun o=>∃ u:Nat,i≤u∧u≤s.size∧o=.int .i64 u∧fwdF (fun j=>kindN (bt s j) == K) s.size (s.size-i) i=fwdF (fun j=>kindN (bt s j) == K) s.size (s.size-u) u) (fun o=>s.size-(intOf o).toNat)
   case atStart=>exact⟨i,Nat.le_refl _,by omega,rfl,rfl⟩
   case round=>
    obtain⟨u,hu1,hu2,rfl,hfw⟩:=hrel
    have HFW:=hide hfw
    clear hfw
    by_cases hul:u<s.size
    ·have hui:(u:Int)<(s.size:Int):=by omega
     have HBU:=hide (bt_get s u hul)
     cases hku:((kindN s[u].toNat:Int) == (K:Int))
     ·have hno:=hide (show (fun j=>kindN (bt s j) == K) u=false by
       have:(kindN s[u].toNat == K)=false:=by simpa using (show ¬ kindN s[u].toNat=K by have:=hku;simp at this;omega)
       simp only [HBU.out,this])
      have HU:=hide (show fwdF (fun j=>kindN (bt s j) == K) s.size (s.size-i) i=u by rw [HFW.out];exact fwdF_no hno.out)
      cases hk9:((K:Int) == 97)
      ·have hk9':(K == 97)=false:=by simpa using (show ¬ K=97 by have:=hk9;simp at this;omega)
       have HF:=hide (show spanF s i=⟨2,i,u⟩ by unfold spanF;rw [HB.out,e1,e2,HK.out,hk0',HGD.out,hk9',HU.out];rfl)
       go_wp2_with fail
       refine (HKD.out (s[u].toNat) (kindN s[u].toNat) _ rfl).mono ?_
       rintro e w' ⟨rfl,rfl⟩
       go_wp2
       exact bodyPost_ret (results_cell_row Tryz.results137 _ _ w.heap.size 94 #[.int .i64 2,.int .i64 i,.int .i64 u] (0,0) _ (by simp) (HNEW.out _ _ _) Tryz.underlying94 rfl (by rw [Tryz.sizeSpan];rfl)) rfl ⟨by rw [HF.out];rfl,HBX.out _⟩
      ·have hk9':(K == 97)=true:=by simpa using (show K=97 by have:=hk9;simp at this;omega)
       have HF:=hide (show spanF s i=⟨1,i,u⟩ by unfold spanF;rw [HB.out,e1,e2,HK.out,hk0',HGD.out,hk9',HU.out];rfl)
       go_wp2_with fail
       refine (HKD.out (s[u].toNat) (kindN s[u].toNat) _ rfl).mono ?_
       rintro e w' ⟨rfl,rfl⟩
       go_wp2
       exact bodyPost_ret (results_cell_row Tryz.results137 _ _ w.heap.size 94 #[.int .i64 1,.int .i64 i,.int .i64 u] (0,0) _ (by simp) (HNEW.out _ _ _) Tryz.underlying94 rfl (by rw [Tryz.sizeSpan];rfl)) rfl ⟨by rw [HF.out];rfl,HBX.out _⟩
     ·have hys:=hide (show (fun j=>kindN (bt s j) == K) u=true by
       have:(kindN s[u].toNat == K)=true:=by simpa using (show kindN s[u].toNat=K by have:=hku;simp at this;omega)
       simp only [HBU.out,this])
      have HU:=hide (show fwdF (fun j=>kindN (bt s j) == K) s.size (s.size-i) i=fwdF (fun j=>kindN (bt s j) == K) s.size (s.size-(u+1)) (u+1) by rw [HFW.out];exact fwdF_yes hul hys.out)
      go_wp2_with fail
      refine (HKD.out (s[u].toNat) (kindN s[u].toNat) _ rfl).mono ?_
      rintro e w' ⟨rfl,rfl⟩
      go_wp2
      go_round
      case rel=>exact⟨u+1,by omega,by omega,by go_num,HU.out⟩
      case measure=>simp [intOf];omega
    ·have HUE:=hide (show u=s.size by omega)
     have hud:decide ((u:Int)<(s.size:Int))=false:=by simp;omega
     have HU:=hide (show fwdF (fun j=>kindN (bt s j) == K) s.size (s.size-i) i=u by rw [HFW.out];exact (by rw [HUE.out];exact fwdF_end))
     cases hk9:((K:Int) == 97)
     ·have hk9':(K == 97)=false:=by simpa using (show ¬ K=97 by have:=hk9;simp at this;omega)
      have HF:=hide (show spanF s i=⟨2,i,u⟩ by unfold spanF;rw [HB.out,e1,e2,HK.out,hk0',HGD.out,hk9',HU.out];rfl)
      go_wp2
      exact bodyPost_ret (results_cell_row Tryz.results137 _ _ w.heap.size 94 #[.int .i64 2,.int .i64 i,.int .i64 u] (0,0) _ (by simp) (HNEW.out _ _ _) Tryz.underlying94 rfl (by rw [Tryz.sizeSpan];rfl)) rfl ⟨by rw [HF.out];rfl,HBX.out _⟩
     ·have hk9':(K == 97)=true:=by simpa using (show K=97 by have:=hk9;simp at this;omega)
      have HF:=hide (show spanF s i=⟨1,i,u⟩ by unfold spanF;rw [HB.out,e1,e2,HK.out,hk0',HGD.out,hk9',HU.out];rfl)
      go_wp2
      exact bodyPost_ret (results_cell_row Tryz.results137 _ _ w.heap.size 94 #[.int .i64 1,.int .i64 i,.int .i64 u] (0,0) _ (by simp) (HNEW.out _ _ _) Tryz.underlying94 rfl (by rw [Tryz.sizeSpan];rfl)) rfl ⟨by rw [HF.out];rfl,HBX.out _⟩
 ·have hk0':(K == 0)=true:=by simpa using (show K=0 by have:=hk0;simp at this;omega)
  have HF:=hide (show spanF s i=⟨4,i,i+1⟩ by unfold spanF;rw [HB.out,e1,e2,HK.out,hk0'];rfl)
  clear e1 e2 hk0'
  go_enter Tryz.func137,Tryz.ntmps137
  go_wp2_with fail
  refine (HKD.out (s[i].toNat) K _ HK.out).mono ?_
  rintro e w' ⟨rfl,rfl⟩
  go_wp2
  exact bodyPost_ret (results_cell_row Tryz.results137 _ _ w.heap.size 94 #[.int .i64 4,.int .i64 i,.int .i64 ((i:Int)+1)] (0,0) _ (by simp) (HNEW.out _ _ _) Tryz.underlying94 rfl (by rw [Tryz.sizeSpan];rfl)) rfl ⟨by rw [HF.out];rfl,HBX.out _⟩
end Go.Proofs.YtgigkiocdiffjaaGreat
namespace Go.Proofs.YtgigkiocdiffjaaGreat
open Go.RowKit Veil
theorem Tryz.infoSpan:(Tryz.prog.info? 94).map (fun i=>(i.zero,i.size,i.bytes))=some (some (.agg #[.int .i64 0,.int .i64 0,.int .i64 0]),3,24):=by kernel_rfl
def spansTo (s:ByteArray) (k:Nat):List Sp:=((List.range k).map (spanF s)).filter fun x=>!(x.kind == 0)
theorem spansTo_yes {s:ByteArray} {k:Nat} (h:((spanF s k).kind == 0)=false):spansTo s (k+1)=spansTo s k++[spanF s k]:=by
 unfold spansTo;rw [List.range_succ,List.map_append,List.filter_append];simp [h]
theorem spansTo_no {s:ByteArray} {k:Nat} (h:((spanF s k).kind == 0)=true):spansTo s (k+1)=spansTo s k:=by
 unfold spansTo;rw [List.range_succ,List.map_append,List.filter_append];simp [h]
theorem spansTo_length (s:ByteArray) (k:Nat):(spansTo s k).length≤k:=by
 unfold spansTo
 have:=List.length_filter_le (fun x:Sp=>!(x.kind == 0)) ((List.range k).map (spanF s))
 simpa using this
theorem rspans_no (c:Cfg) (v:CfgV) (rows:List (RC × Value)) (rv av:Value) (g:Nat) (level:Int) (w:World) (hdoc:RDocR w g c v rows rv av) (hlv:okL c.labels level=false) :
  Calls Tryz.prog 91 #[.pointer (some ⟨g,0,none⟩),.int .i64 level] w fun e w'=>e=.returned (.tuple #[.slice none 0 0,.int .i64 6])∧Below w.heap.size w w':=by
 have HVW:=hide (rview_no c v rows rv av g level w hdoc hlv)
 clear hdoc hlv
 go_enter Tryz.func91,Tryz.ntmps91
 go_wp2_with fail
 refine (HVW.out).mono ?_
 rintro e w1 ⟨rfl,hb1⟩
 go_wp2
 go_ret2
 exact⟨rfl,hb1⟩
theorem view_of {c:Cfg} {rows:List (RC × Value)} (hok:RDocOk c rows) (level:Nat):(∀ j,plB (placesR c (rows.map (·.1)) level) j<256)∧(placesR c (rows.map (·.1)) level).length≤1000000:=by
 obtain⟨h1,h2⟩:=places_of hok level
 exact⟨plB_ok h2,Nat.le_trans h1 hok.length⟩
theorem viewT_size (P:List Pl):(viewT P).size=P.length:=by unfold viewT;rw [textF_size];omega
theorem rspans_ok (c:Cfg) (v:CfgV) (rows:List (RC × Value)) (rv av:Value) (g level:Nat) (w:World) (hdoc:RDocR w g c v rows rv av) (hok:RDocOk c rows) (hlv:okL c.labels level=true) :
  Calls Tryz.prog 91 #[.pointer (some ⟨g,0,none⟩),.int .i64 level] w fun e w'=>∃ vl,e=.returned (.tuple #[vl,.int .i64 0])∧OwnL 94 3 spV w' w.heap.size vl (spansTo (viewT (placesR c (rows.map (·.1)) level)) (viewT (placesR c (rows.map (·.1)) level)).size)∧Below w.heap.size w w':=by
 obtain⟨hv1,hv2⟩:=view_of hok level
 have HVW:=hide (rview_ok c v rows rv av g level w hdoc hok hlv hv1 hv2)
 have hsz:=viewT_size (placesR c (rows.map (·.1)) level)
 generalize viewT (placesR c (rows.map (·.1)) level)=s at *
 have hs:s.size≤1000000:=by omega
 have HSP:=hide (fun (i:Nat) (w':World) (hi:i<s.size)=>rspan_any s i w' hi (by omega))
 clear hdoc hlv hok hv1 hv2 hsz
 go_enter Tryz.func91,Tryz.ntmps91
 go_wp2_with fail
 refine (HVW.out).mono ?_
 rintro e w1 ⟨rfl,hb1⟩
 go_wp2
 go_loopw [8,9] (fun vl i wr=>∃ k:Nat,k≤s.size∧i=.int .i64 k∧OwnL 94 3 spV wr w.heap.size vl (spansTo s k)∧Below w.heap.size w wr) (fun _ i _=>s.size-(intOf i).toNat)
 case atStart=>exact⟨0,Nat.zero_le _,rfl,OwnL.nil _ _ _ _ _,hb1⟩
 case round=>
  clear hb1
  obtain⟨wo,rfl⟩:∃ x,x=wr:=⟨_,rfl⟩
  obtain⟨k,hk,rfl,hvl,hbel⟩:=hrel
  have HVL:=hide hvl
  clear hvl
  by_cases hlt:k<s.size
  ·have hki:(k:Int)<(s.size:Int):=by omega
   have HS1:=hide (HSP.out k wo hlt)
   have HYES:=hide (fun h=>spansTo_yes (s:=s) (k:=k) h)
   have HNO:=hide (fun h=>spansTo_no (s:=s) (k:=k) h)
   have hln:=spansTo_length s k
   generalize hx:spanF s k=x at *
   obtain⟨x1,x2,x3⟩:=x
   unfold spV at HS1
   simp only at HS1
   go_wp2_with fail
   refine (HS1.out).mono ?_
   rintro e w2 ⟨rfl,hb2⟩
   have hbel2:=hbel.trans (hb2.mono hbel.size)
   have hbB:Below w2.heap.size w2 (w2.alloc (.cells #[.int .i64 x1,.int .i64 x2,.int .i64 x3] 94)):=below_box w2 _
   have hbelB:Below w.heap.size w (w2.alloc (.cells #[.int .i64 x1,.int .i64 x2,.int .i64 x3] 94)):=hbel2.alloc hbel2.size _
   have HVB:=hide ((HVL.out.below hb2).below hbB)
   cases hx1:((x1:Int) == 0)
   ·have HZ:=hide (HYES.out (by simpa using (show ¬ x1=0 by have:=hx1;simp at this;omega)))
    have hx1':((x1:Int) != 0)=true:=by simpa using hx1
    have hbC:Below (w2.alloc (.cells #[.int .i64 x1,.int .i64 x2,.int .i64 x3] 94)).heap.size (w2.alloc (.cells #[.int .i64 x1,.int .i64 x2,.int .i64 x3] 94)) ((w2.alloc (.cells #[.int .i64 x1,.int .i64 x2,.int .i64 x3] 94)).alloc (.cells #[.int .i64 x1,.int .i64 x2,.int .i64 x3] 94)):=below_box _ _
    have hbelC:=hbelB.trans (hbC.mono hbelB.size)
    have HVC:=hide (HVB.out.below hbC)
    have HNC:=hide (heap_alloc2_new w2 (.cells #[.int .i64 x1,.int .i64 x2,.int .i64 x3] 94) (.cells #[.int .i64 x1,.int .i64 x2,.int .i64 x3] 94))
    clear hx
    go_wp2_with (at_builtin;refine wpList_push rfl (.tmp 32) (.tmp 34) 69 rfl (.agg #[.int .i64 0,.int .i64 0,.int .i64 0]) 24 Tryz.underlying69 Tryz.infoSpan rfl (by decide) rfl HVC.out (w2.heap.size+1) 1 ⟨x1,x2,x3⟩ rfl 94 (0,0) HNC.out rfl (by intro u hu;simp [spV] at hu;rcases hu with rfl|rfl|rfl <;> rfl) (by omega) (by decide) hbelC.size (w2.heap.size+2) (by simp) ?_;intro g6 cap6 w6 hown6 hgrow6 hat6 hlt6)
    have hb6:=hbelC.trans (below_of_grown hgrow6 (fun b hb=>(HVC.out.lt hb).1) hbelC.size)
    go_roundw
    case rel=>exact⟨k+1,by omega,by go_num,by rw [HZ.out];exact hown6,hb6⟩
    case measure=>simp [intOf];omega
   ·have HZ:=hide (HNO.out (by simpa using (show x1=0 by have:=hx1;simp at this;omega)))
    have hx1':((x1:Int) != 0)=false:=by simpa using hx1
    clear hx
    go_wp2
    go_roundw
    case rel=>exact⟨k+1,by omega,by go_num,by rw [HZ.out];exact HVB.out,hbelB⟩
    case measure=>simp [intOf];omega
  ·obtain rfl:k=s.size:=by omega
   have hkc:decide ((s.size:Int)<(s.size:Int))=false:=by simp
   obtain⟨ao,cap,hvv⟩:=HVL.out.shape
   subst hvv
   go_wp2
   go_ret2
   exact⟨_,rfl,HVL.out,hbel⟩
end Go.Proofs.YtgigkiocdiffjaaGreat
