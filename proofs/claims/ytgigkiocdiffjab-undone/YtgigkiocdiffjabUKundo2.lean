import Derived.Test.YtgigkiocdiffjabU33
set_option maxRecDepth 100000
set_option maxHeartbeats 16000000
namespace Go.Proofs.Ytgigkiocdiffjab
open Veil
section
variable {c:Cfg} {d:Nat} {row:List RC}
theorem places_joinL (hr:c.rules=[]) (h:RowGood c row):placesR c row d=joinL (fst c d 0 row):=by
 rw [places_none hr h,← fst_first _ row rfl]
 rfl
theorem fst_new {lv:Nat} (hle:c.le lv lv=true):∀ (N:List RC) (n:Nat),(∀ x,x ∈ N→∃ b:Nat,x=⟨b,lv,[]⟩)→(∀ x,x ∈ N→x.b≠35) →
  (fst c lv n N).map seeS=N.map (·.b)∧(fst c lv n N).length=N.length∧∀ i,i<N.length→(seAt (fst c lv n N) i).num=n+i
 | [],n,_,_=>⟨rfl,rfl,fun i hi=>absurd hi (Nat.not_lt_zero _)⟩
 | x :: N,n,hN,h35=>by
  obtain⟨b,rfl⟩:=hN x (List.mem_cons_self)
  obtain⟨i1,i2,i3⟩:=fst_new hle N (n+1) (fun y hy=>hN y (List.mem_cons_of_mem _ hy)) (fun y hy=>h35 y (List.mem_cons_of_mem _ hy))
  have e:fst c lv n (⟨b,lv,[]⟩ :: N)=⟨n,b,false,false⟩ :: fst c lv (n+1) N:=by
   rw [fst]
   unfold thereB seenF
   simp [hle]
  rw [e]
  refine⟨by rw [List.map_cons,i1];rfl,by simp [i2],fun i hi=>?_⟩
  cases i with
  | zero=>rfl
  | succ i=>
   have:seAt (⟨n,b,false,false⟩ :: fst c lv (n+1) N) (i+1)=seAt (fst c lv (n+1) N) i:=by unfold seAt;simp [List.getD]
   rw [this,i3 i (by simpa using hi)]
   omega
theorem joinL_plain:∀ (n:Nat) (S:List Se),S.length=n→(∀ s,s ∈ S→seeS s≠35)→joinL S=S.map (fun s=>⟨seeS s,s.num,s.num⟩):=by
 intro n
 induction n with
 | zero=>
  intro S hl _
  obtain rfl:=List.eq_nil_of_length_eq_zero hl
  rfl
 | succ n ih=>
  intro S hl h
  rcases List.eq_nil_or_concat S with rfl|⟨S',s,rfl⟩
  ·cases hl
  ·rw [List.concat_eq_append] at *
   have hs:(seeS s == 35)=false:=by simpa using h s (by simp)
   rw [joinL_snoc,hs,Bool.and_false,cond_false,ih S' (by simpa using hl) (fun t ht=>h t (by simp [ht])),List.map_append]
   rfl
theorem headM_no {T:List Se} (h:∀ s,s ∈ T→seeS s≠35):headM T=false:=by
 cases T with
 | nil=>rfl
 | cons t T=>simpa [headM] using h t (List.mem_cons_self)
theorem markC_at (m:Mk):∀ (A:List RC) (x:RC) (Y:List RC),markC (A++x :: Y) A.length m=A++marked m x :: Y
 | [],x,Y=>by simp [markC,marked]
 | a :: A,x,Y=>by
  have ih:=markC_at m A x Y
  unfold markC at *
  simpa using ih
theorem mark_mid (m:Mk):∀ (N A B:List RC),markAll (A++N++B) (List.range' A.length N.length) m=A++N.map (marked m)++B
 | [],A,B=>by simp [markAll]
 | x :: N,A,B=>by
  rw [List.length_cons,List.range'_succ]
  show markAll (markC (A++(x :: N)++B) A.length m) _ m=_
  have e:markC (A++(x :: N)++B) A.length m=(A++[marked m x])++N++B:=by
   have:=markC_at m A x (N++B)
   simpa using this
  have ih:=mark_mid m N (A++[marked m x]) B
  rw [List.length_append] at ih
  rw [e]
  exact ih.trans (by simp)
structure Undo (c:Cfg) (row:List RC) (lv a:Nat) (N:List RC) (row1:List RC):Prop where
 bytes:(placesR c row1 lv).map (·.b)=((placesR c row lv).map (·.b)).take a++N.map (·.b)++((placesR c row lv).map (·.b)).drop a
 back:∀ d,bytesL c (markAll row1 (cellsTo c row1 lv (placesR c row1 lv) a (a+N.length)) ⟨2,lv,0⟩) d=bytesL c row d
theorem undo_is (hr:c.rules=[]) {lv:Nat} (hlv:c.le lv lv=true) (h:RowGood c row) {a:Nat} (ha:a≤(placesR c row lv).length) (N:List RC) (hN:∀ x,x ∈ N→∃ b:Nat,x=⟨b,lv,[]⟩) (hN1:1≤N.length)
  (h1:RowGood c (putC row N (behindR (placesR c row lv) a))):Undo c row lv a N (putC row N (behindR (placesR c row lv) a)):=by
 have hP:=places_joinL (d:=lv) hr h
 have hP1:=places_joinL (d:=lv) hr h1
 obtain⟨S1,S2,c1,c2,c3⟩:=joinL_cut _ (fst c lv 0 row) rfl a (by rw [← hP];exact ha)
 have hmono:=fst_mono (c:=c) (d:=lv) row 0
 have hap:=joinL_app S1 _ S2 rfl c3
 rw [← c1,← hP] at hap
 rw [← hP] at c2
 have hl1:(joinL S1).length=a:=by rw [c2,List.length_take];omega
 have hk:behindR (placesR c row lv) a≤row.length∧(∀ s,s ∈ S1→s.num<behindR (placesR c row lv) a)∧∀ s,s ∈ S2→behindR (placesR c row lv) a≤s.num:=by
  cases a with
  | zero=>
   have hS1:S1=[]:=by
    cases hS:S1 with
    | nil=>rfl
    | cons s S=>
     have:=joinL_ne (S:=S1) (by rw [hS];simp)
     exact absurd (List.eq_nil_of_length_eq_zero hl1) this
   rw [hS1]
   exact⟨Nat.zero_le _,fun s hs=>by simp at hs,fun s _=>Nat.zero_le _⟩
  | succ a=>
   have hS1:S1≠[]:=fun e=>by rw [e,joinL_nil] at hl1;simp at hl1
   rcases List.eq_nil_or_concat S1 with he|⟨T,t,he⟩
   ·exact absurd he hS1
   ·rw [List.concat_eq_append] at he
    have hlast:=joinL_last T t
    rw [← he,c2] at hlast
    have hpl:(plAt (placesR c row lv) a).last=t.num:=by
     have hlt:a<(placesR c row lv).length:=by omega
     have:((placesR c row lv).take (a+1)).getLast?=some (plAt (placesR c row lv) a):=by
      rw [List.getLast?_eq_getElem?,List.length_take,Nat.min_eq_left ha,Nat.add_sub_cancel,List.getElem?_take,if_pos (by omega)]
      unfold plAt
      rw [List.getD,List.getElem?_eq_getElem hlt]
      rfl
     rw [this] at hlast
     exact Option.some.inj hlast
    have hb:behindR (placesR c row lv) (a+1)=t.num+1:=by
     show (plAt (placesR c row lv) a).last+1=_
     rw [hpl]
    rw [hb]
    rw [c1,he,List.pairwise_append,List.pairwise_append] at hmono
    refine⟨?_,fun s hs=>?_,fun s hs=>?_⟩
    ·have:=fst_num row 0 t (by rw [c1,he];simp)
     omega
    ·rw [he,List.mem_append,List.mem_singleton] at hs
     rcases hs with hs|rfl
     ·have:=hmono.1.2.2 s hs t (by simp)
      omega
     ·omega
    ·have:=hmono.2.2 t (by simp) s hs
     omega
 obtain⟨hk0,hk1,hk2⟩:=hk
 obtain⟨d1,d2⟩:=cut_row c1 hk1 hk2 hk0
 generalize behindR (placesR c row lv) a=k at *
 have hlk:(row.take k).length=k:=by rw [List.length_take];omega
 have h35:∀ x,x ∈ N→x.b≠35:=fun x hx=>(h1.cells x (by unfold putC;simp [hx])).2
 obtain⟨n1,n2,n3⟩:=fst_new hlv N k hN h35
 have hfst:fst c lv 0 (putC row N k)=S1++(fst c lv k N++fst c lv (k+N.length) (row.drop k)):=by
  unfold putC
  rw [fst_append,fst_append,d1,hlk,List.length_append,hlk,Nat.zero_add,Nat.zero_add,List.append_assoc]
 have hsee:∀ s,s ∈ fst c lv k N→seeS s≠35:=fun s hs=>by
  have:seeS s ∈ (fst c lv k N).map seeS:=List.mem_map_of_mem hs
  rw [n1] at this
  obtain⟨x,hx,hxe⟩:=List.mem_map.1 this
  rw [← hxe]
  exact h35 x hx
 have hNp:=joinL_plain _ (fst c lv k N) rfl hsee
 have hne:fst c lv k N≠[]:=fun e=>by rw [e] at n2;simp at n2;omega
 have hlb:lastB (joinL (fst c lv k N))=false:=by
  rw [lastB_map,hNp,List.map_map]
  have:((fst c lv k N).map ((fun p:Pl=>p.b) ∘ fun s=>(⟨seeS s,s.num,s.num⟩:Pl)))=(fst c lv k N).map seeS:=List.map_congr_left (fun _ _=>rfl)
  rw [this]
  cases hx:((fst c lv k N).map seeS).getLast? with
  | none=>rfl
  | some b=>
   have hm:=List.mem_of_getLast? hx
   obtain⟨s,hs,rfl⟩:=List.mem_map.1 hm
   simpa using hsee s hs
 have hj2:joinL (fst c lv k N++fst c lv (k+N.length) (row.drop k))=joinL (fst c lv k N)++joinL (fst c lv (k+N.length) (row.drop k)):=joinL_app _ _ _ rfl (by rw [hlb];rfl)
 have hj1:joinL (fst c lv 0 (putC row N k))=joinL S1++(joinL (fst c lv k N)++joinL (fst c lv (k+N.length) (row.drop k))):=by
  rw [hfst,joinL_app S1 _ _ rfl (by rw [headM_app hne,headM_no hsee,Bool.and_false]),hj2]
 have hb2:(joinL (fst c lv (k+N.length) (row.drop k))).map (·.b)=(joinL S2).map (·.b):=by
  rw [joinL_bytes,joinL_bytes,← d2,fst_see (row.drop k) (k+N.length) k]
 have hbN:(joinL (fst c lv k N)).map (·.b)=N.map (·.b):=by
  rw [hNp,List.map_map,← n1]
  exact List.map_congr_left (fun _ _=>rfl)
 have hlN:(joinL (fst c lv k N)).length=N.length:=by rw [hNp,List.length_map,n2]
 refine⟨?_,fun d=>?_⟩
 ·rw [hP1,hj1,List.map_append,List.map_append,hb2,hbN,hap,List.map_append,List.take_left' (by rw [List.length_map,hl1]),List.drop_left' (by rw [List.length_map,hl1]),List.append_assoc]
 ·have hat:∀ i,i<N.length→(plAt (placesR c (putC row N k) lv) (a+i)).first=k+i∧(plAt (placesR c (putC row N k) lv) (a+i)).last=k+i:=fun i hi=>by
   have:plAt (placesR c (putC row N k) lv) (a+i)=⟨seeS (seAt (fst c lv k N) i),k+i,k+i⟩:=by
    rw [hP1,hj1]
    unfold plAt
    rw [List.getD,List.getElem?_append_right (by omega),hl1,Nat.add_sub_cancel_left,List.getElem?_append_left (by omega),hNp,List.getElem?_map,List.getElem?_eq_getElem (by omega)]
    have:=n3 i hi
    have e:seAt (fst c lv k N) i=(fst c lv k N)[i]'(by omega):=by unfold seAt;rw [List.getD,List.getElem?_eq_getElem (by omega)];rfl
    rw [e] at this
    rw [e]
    show (⟨_,_,_⟩:Pl)=_
    rw [this]
   rw [this]
   exact⟨rfl,rfl⟩
  have hlen:a+N.length≤(placesR c (putC row N k) lv).length:=by
   rw [hP1,hj1,List.length_append,List.length_append,hl1,hlN]
   omega
  have hcells:cellsTo c (putC row N k) lv (placesR c (putC row N k) lv) a (a+N.length)=List.range' k N.length:=by
   rw [(cells_one (placesOk_R c _ lv (fun x hx=>(h1.cells x hx).1.byte)) (a+N.length) (by omega) hlen).1]
   have f0:=(hat 0 (by omega)).1
   have f1:=(hat (N.length-1) (by omega)).2
   rw [Nat.add_zero,Nat.add_zero] at f0
   rw [show a+N.length-1=a+(N.length-1) by omega,f0,f1,show k+(N.length-1)+1=k+N.length by omega]
   unfold cellsIn
   rw [Nat.add_sub_cancel_left,List.filter_eq_self]
   intro i hi
   have hi':=List.mem_range'_1.1 hi
   have hc:cellAt (putC row N k) i=N.getD (i-k) ⟨0,0,[]⟩:=by
    unfold cellAt putC
    rw [List.getD,List.append_assoc,List.getElem?_append_right (by omega),hlk,List.getElem?_append_left (by omega)]
    rfl
   have hm:N.getD (i-k) ⟨0,0,[]⟩ ∈ N:=by
    rw [List.getD,List.getElem?_eq_getElem (by omega)]
    exact List.getElem_mem _
   obtain⟨b,hb⟩:=hN _ hm
   unfold thR
   rw [hc,hb]
   unfold thereB
   simp [hlv]
  rw [hcells]
  have e:putC row N k=row.take k++N++row.drop k:=rfl
  have hmm:=mark_mid ⟨2,lv,0⟩ N (row.take k) (row.drop k)
  rw [hlk] at hmm
  rw [e,hmm,bytes_cut row k]
  unfold bytesL
  rw [List.flatMap_append,List.flatMap_append]
  have hz:(N.map (marked ⟨2,lv,0⟩)).flatMap (gC c d)=[]:=by
   rw [List.flatMap_eq_nil_iff]
   intro y hy
   obtain⟨x,hx,rfl⟩:=List.mem_map.1 hy
   obtain⟨b,rfl⟩:=hN x hx
   unfold gC
   rw [there_mark]
   unfold thereB goneB
   cases c.le lv d <;> simp
  rw [hz,List.append_nil]
end
end Go.Proofs.Ytgigkiocdiffjab
