import Derived.Test.YtgigkiocdiffjabU32
set_option maxRecDepth 100000
set_option maxHeartbeats 16000000
namespace Go.Proofs.Ytgigkiocdiffjab
open Veil
def seeS (s:Se):Nat:=bif s.hid then 35 else s.b
def joinL (S:List Se):List Pl:=joinTo (fun j=>(seAt S j).num) (seeB S) S.length
def fst (c:Cfg) (d:Nat):Nat→List RC→List Se
 | _,[]=>[]
 | n,x :: row=>(bif thereB c x d then [⟨n,x.b,!c.le (seenF c x d).1 d,(seenF c x d).2⟩] else [])++fst c d (n+1) row
def headM (T:List Se):Bool:=match T with
 | []=>false
 | t :: _=>seeS t == 35
section
variable {c:Cfg} {d:Nat} {row:List RC}
theorem fst_append:∀ (A B:List RC) (n:Nat),fst c d n (A++B)=fst c d n A++fst c d (n+A.length) B
 | [],B,n=>by simp [fst]
 | x :: A,B,n=>by
  rw [List.cons_append,fst,fst,fst_append A B (n+1),List.append_assoc,List.length_cons,show n+1+A.length=n+(A.length+1) by omega]
theorem fst_first:∀ (n:Nat) (row:List RC),row.length=n→firstTo c row d row.length=fst c d 0 row:=by
 intro n
 induction n with
 | zero=>
  intro row hl
  obtain rfl:=List.eq_nil_of_length_eq_zero hl
  rfl
 | succ n ih=>
  intro row hl
  rcases List.eq_nil_or_concat row with rfl|⟨row',x,rfl⟩
  ·cases hl
  ·rw [List.concat_eq_append] at *
   rw [firstTo_snoc,ih row' (by simpa using hl),fst_append]
   simp [fst]
theorem fst_num:∀ (row:List RC) (n:Nat) (s:Se),s ∈ fst c d n row→n≤s.num∧s.num<n+row.length
 | [],n,s,hs=>by cases hs
 | x :: row,n,s,hs=>by
  rw [fst,List.mem_append] at hs
  rcases hs with hs|hs
  ·cases h:thereB c x d
   ·rw [h] at hs;cases hs
   ·rw [h,cond_true,List.mem_singleton] at hs
    subst hs
    simp
  ·have:=fst_num row (n+1) s hs
   simp
   omega
theorem fst_mono:∀ (row:List RC) (n:Nat),(fst c d n row).Pairwise (fun a b=>a.num<b.num)
 | [],n=>List.Pairwise.nil
 | x :: row,n=>by
  rw [fst,List.pairwise_append]
  refine⟨?_,fst_mono row (n+1),fun a ha b hb=>?_⟩
  ·cases thereB c x d <;> simp
  ·have hb':=fst_num row (n+1) b hb
   cases h:thereB c x d
   ·rw [h] at ha;cases ha
   ·rw [h,cond_true,List.mem_singleton] at ha
    subst ha
    show n<b.num
    omega
theorem fst_see:∀ (row:List RC) (n n':Nat),(fst c d n row).map seeS=(fst c d n' row).map seeS
 | [],n,n'=>rfl
 | x :: row,n,n'=>by
  rw [fst,fst,List.map_append,List.map_append,fst_see row (n+1) (n'+1)]
  cases thereB c x d <;> rfl
theorem seAt_left {S T:List Se} {j:Nat} (h:j<S.length):seAt (S++T) j=seAt S j:=by
 unfold seAt
 rw [List.getD,List.getD,List.getElem?_append_left h]
theorem joinTo_same {A A' M M':Nat→Nat}:∀ k,(∀ j,j<k→A j=A' j)→(∀ j,j<k→M j=M' j)→joinTo A M k=joinTo A' M' k
 | 0,_,_=>rfl
 | k+1,hA,hM=>by rw [joinTo,joinTo,joinTo_same k (fun j hj=>hA j (by omega)) (fun j hj=>hM j (by omega)),hA k (by omega),hM k (by omega)]
theorem joinL_nil:joinL []=[]:=rfl
theorem joinL_snoc (S:List Se) (s:Se):joinL (S++[s])=bif lastB (joinL S) && (seeS s == 35) then lastTo (joinL S) s.num else joinL S++[⟨seeS s,s.num,s.num⟩]:=by
 have hl:(S++[s]).length=S.length+1:=by simp
 have hs:seAt (S++[s]) S.length=s:=by
  unfold seAt
  rw [List.getD,List.getElem?_append_right (Nat.le_refl _)]
  simp
 have hb:seeB (S++[s]) S.length=seeS s:=by unfold seeB;rw [hs];rfl
 have hj:joinTo (fun j=>(seAt (S++[s]) j).num) (seeB (S++[s])) S.length=joinL S:=joinTo_same _ (fun j hj=>by show (seAt _ j).num=_;rw [seAt_left hj]) (fun j hj=>by unfold seeB;rw [seAt_left hj])
 show joinTo _ _ (S++[s]).length=_
 rw [hl,joinTo,hj]
 show (bif lastB (joinL S) && (seeB (S++[s]) S.length == 35) then lastTo (joinL S) (seAt (S++[s]) S.length).num else joinL S++[⟨seeB (S++[s]) S.length,(seAt (S++[s]) S.length).num,(seAt (S++[s]) S.length).num⟩])=_
 rw [hb,hs]
theorem lastTo_length (l:List Pl) (x:Nat):(lastTo l x).length=l.length:=by simp [lastTo]
theorem lastTo_app {P Q:List Pl} (hQ:Q≠[]) (x:Nat):lastTo (P++Q) x=P++lastTo Q x:=by
 rcases List.eq_nil_or_concat Q with rfl|⟨l',p,rfl⟩
 ·exact absurd rfl hQ
 ·rw [List.concat_eq_append,← List.append_assoc,lastTo_set (l:=P++l'++[p]) (n:=(P++l').length) (p:=p) (by simp;omega) (by simp),lastTo_set (l:=l'++[p]) (n:=l'.length) (p:=p) (by simp) (by simp)]
  simp
theorem lastB_app {P Q:List Pl} (hQ:Q≠[]):lastB (P++Q)=lastB Q:=by
 rcases List.eq_nil_or_concat Q with rfl|⟨l',p,rfl⟩
 ·exact absurd rfl hQ
 ·rw [List.concat_eq_append,← List.append_assoc,lastB_snoc,lastB_snoc]
theorem joinL_ne {S:List Se} (h:S≠[]):joinL S≠[]:=by
 rcases List.eq_nil_or_concat S with rfl|⟨S',s,rfl⟩
 ·exact absurd rfl h
 ·rw [List.concat_eq_append,joinL_snoc]
  cases hb:lastB (joinL S') && (seeS s == 35)
  ·simp
  ·intro he
   have h1:=congrArg List.length he
   rw [cond_true,lastTo_length] at h1
   have h2:joinL S'=[]:=List.eq_nil_of_length_eq_zero h1
   rw [h2] at hb
   cases hb
theorem headM_app {T:List Se} (hT:T≠[]) (U:List Se):headM (T++U)=headM T:=by
 cases T with
 | nil=>exact absurd rfl hT
 | cons t T=>rfl
theorem joinL_app (S:List Se):∀ (n:Nat) (T:List Se),T.length=n→(lastB (joinL S) && headM T)=false→joinL (S++T)=joinL S++joinL T:=by
 intro n
 induction n with
 | zero=>
  intro T hl _
  obtain rfl:=List.eq_nil_of_length_eq_zero hl
  simp [joinL_nil]
 | succ n ih=>
  intro T hl hh
  rcases List.eq_nil_or_concat T with rfl|⟨T',t,rfl⟩
  ·cases hl
  ·rw [List.concat_eq_append] at *
   have hl':T'.length=n:=by simpa using hl
   by_cases hT:T'=[]
   ·subst hT
    have hh':(lastB (joinL S) && (seeS t == 35))=false:=hh
    rw [List.nil_append,joinL_snoc,hh',← List.nil_append [t],joinL_snoc]
    rfl
   ·have ih':=ih T' hl' (by rw [headM_app hT] at hh;exact hh)
    rw [← List.append_assoc,joinL_snoc,ih',lastB_app (joinL_ne hT),joinL_snoc]
    cases lastB (joinL T') && (seeS t == 35)
    ·simp
    ·exact lastTo_app (joinL_ne hT) _
theorem joinL_cut:∀ (n:Nat) (S:List Se),S.length=n→∀ a,a≤(joinL S).length→∃ S1 S2,S=S1++S2∧joinL S1=(joinL S).take a∧(lastB (joinL S1) && headM S2)=false:=by
 intro n
 induction n with
 | zero=>
  intro S hl a ha
  obtain rfl:=List.eq_nil_of_length_eq_zero hl
  refine⟨[],[],rfl,?_,rfl⟩
  rw [joinL_nil]
  simp
 | succ n ih=>
  intro S hl a ha
  rcases List.eq_nil_or_concat S with rfl|⟨S',s,rfl⟩
  ·cases hl
  ·rw [List.concat_eq_append] at *
   have hl':S'.length=n:=by simpa using hl
   by_cases hall:a=(joinL (S'++[s])).length
   ·exact⟨S'++[s],[],by simp,by rw [hall,List.take_length],by rw [show headM []=false from rfl];simp⟩
   ·have hlen:(joinL (S'++[s])).length≤(joinL S').length+1:=by
     rw [joinL_snoc]
     cases lastB (joinL S') && (seeS s == 35)
     ·simp
     ·rw [cond_true,lastTo_length];omega
    obtain⟨S1,S2,h1,h2,h3⟩:=ih S' hl' a (by omega)
    have hap:=joinL_app S1 _ S2 rfl h3
    rw [← h1] at hap
    have hl1:(joinL S1).length=a:=by rw [h2,List.length_take];omega
    refine⟨S1,S2++[s],by rw [h1,List.append_assoc],?_,?_⟩
    ·rw [h2,joinL_snoc]
     cases hb:lastB (joinL S') && (seeS s == 35)
     ·rw [cond_false,List.take_append_of_le_length (by omega)]
     ·rw [cond_true]
      have hlt:a<(joinL S').length:=by
       rw [joinL_snoc,hb,cond_true,lastTo_length] at ha hall
       omega
      have hQ:joinL S2≠[]:=fun e=>by
       rw [hap,e,List.append_nil,hl1] at hlt
       omega
      rw [hap,lastTo_app hQ,List.take_append_of_le_length (by omega),List.take_append_of_le_length (by omega)]
    ·by_cases hS:S2=[]
     ·subst hS
      rw [List.append_nil] at h1
      subst h1
      have hall':¬ (joinL S').length=(joinL (S'++[s])).length:=by rw [hl1];exact hall
      rw [joinL_snoc] at hall'
      show (lastB (joinL S') && (seeS s == 35))=false
      cases hb:lastB (joinL S') && (seeS s == 35)
      ·rfl
      ·rw [hb,cond_true,lastTo_length] at hall'
       exact absurd rfl hall'
     ·rw [headM_app hS]
      exact h3
theorem joinL_last (S:List Se) (s:Se):(joinL (S++[s])).getLast?.map (·.last)=some s.num:=by
 rw [joinL_snoc]
 cases hb:lastB (joinL S) && (seeS s == 35)
 ·simp
 ·rw [cond_true]
  rcases List.eq_nil_or_concat (joinL S) with h|⟨l',p,h⟩
  ·rw [h] at hb
   cases hb
  ·rw [h,List.concat_eq_append,lastTo_set (n:=l'.length) (p:=p) (by simp) (by simp)]
   simp
theorem joinL_bytes (S:List Se):(joinL S).map (·.b)=colL (S.map seeS):=by
 unfold joinL
 rw [joinTo_bytes,range_see]
 rfl
theorem cut_row {k:Nat} {S1 S2:List Se} (hS:fst c d 0 row=S1++S2) (h1:∀ s,s ∈ S1→s.num<k) (h2:∀ s,s ∈ S2→k≤s.num) (hk:k≤row.length):fst c d 0 (row.take k)=S1∧fst c d k (row.drop k)=S2:=by
 have e:fst c d 0 row=fst c d 0 (row.take k)++fst c d k (row.drop k):=by
  have:=fst_append (c:=c) (d:=d) (row.take k) (row.drop k) 0
  rw [List.take_append_drop,List.length_take,Nat.min_eq_left hk,Nat.zero_add] at this
  exact this
 have f1:∀ s,s ∈ fst c d 0 (row.take k)→s.num<k:=fun s hs=>by
  have:=fst_num _ _ _ hs
  rw [List.length_take,Nat.min_eq_left hk] at this
  omega
 have f2:∀ s,s ∈ fst c d k (row.drop k)→k≤s.num:=fun s hs=>(fst_num _ _ _ hs).1
 have key:∀ A B:List Se,(∀ s,s ∈ A→s.num<k)→(∀ s,s ∈ B→k≤s.num)→(A++B).filter (fun s=>decide (s.num<k))=A∧(A++B).filter (fun s=>!decide (s.num<k))=B:=fun A B hA hB=>by
  rw [List.filter_append,List.filter_append,List.filter_eq_self.2 (fun s hs=>by simpa using hA s hs),List.filter_eq_nil_iff.2 (fun s hs=>by have:=hB s hs;simp;omega),List.filter_eq_nil_iff.2 (fun s hs=>by have:=hA s hs;simp;omega),List.filter_eq_self.2 (fun s hs=>by have:=hB s hs;simp;omega)]
  simp
 obtain⟨k1,k2⟩:=key _ _ f1 f2
 obtain⟨k3,k4⟩:=key _ _ h1 h2
 rw [← e,hS] at k1 k2
 exact⟨k1.symm.trans k3,k2.symm.trans k4⟩
end
end Go.Proofs.Ytgigkiocdiffjab
