import Derived.Test.YtgigkiocdiffjaaGreatE40
import Derived.Test.YtgigkiocdiffjaaGreatE41
import Derived.Test.YtgigkiocdiffjaaGreatE43
import Derived.Test.YtgigkiocdiffjaaGreatE29
import Derived.Test.YtgigkiocdiffjaaGreatE23
set_option maxRecDepth 100000
set_option maxHeartbeats 16000000
namespace Go.Proofs.YtgigkiocdiffjaaGreat
open Go.RowKit Veil
structure TV where
 dv:Value
 sv:Value
 rv:Value
 nv:Value
inductive TT where
 | g
 | d
 | s
 | r
 | n
def tblk (g:Nat) (t:TV):TT→Option Nat
 | .g=>some g
 | .d=>t.dv.ownBlock
 | .s=>t.sv.ownBlock
 | .r=>t.rv.ownBlock
 | .n=>t.nv.ownBlock
structure MarkI {α:Type} (e eL:TypeId) (sz:Nat) (fv:α→List Value) (mk:Nat→α) (w0 w:World) (F:Nat→Prop) (k:Nat) (sv:Value) (S:List Value):Prop where
 lst:OwnL eL 1 oneV w w0.heap.size sv S
 each:∀ (i:Nat) (v:Value),S[i]?=some v→∃ n,n≤20000∧OwnL e sz fv w w0.heap.size v (List.replicate n (mk (i-i % 3)))
 mine:∀ (i:Nat) (v:Value) (b:Nat),S[i]?=some v→v.ownBlock=some b→¬ F b
 len:S.length≤3*k
 three:S.length % 3=0
section
variable {α:Type} {e eL:TypeId} {sz:Nat} {fv:α→List Value} {mk:Nat→α} {w0 w w':World} {F F':Nat→Prop} {k k':Nat} {sv sv':Value} {S:List Value}
theorem MarkI.keep (h:MarkI e eL sz fv mk w0 w F k sv S) (ho:Only F w w') (hF:∀ b,F' b→F b∨w.heap.size≤b) (hl:OwnL eL 1 oneV w' w0.heap.size sv' S) (hk:k≤k'):MarkI e eL sz fv mk w0 w' F' k' sv' S:=by
 refine⟨hl,fun i v hv=>?_,fun i v b hv hb hf=>?_,by have:=h.len;omega,h.three⟩
 ·obtain⟨n,hn,ho'⟩:=h.each i v hv
  exact⟨n,hn,ho'.only ho (fun b hb=>h.mine i v b hv hb)⟩
 ·obtain⟨n,hn,ho'⟩:=h.each i v hv
  rcases hF b hf with h1|h1
  ·exact h.mine i v b hv hb h1
  ·have:=(ho'.lt hb).2;omega
theorem MarkI.nil (e eL:TypeId) (sz:Nat) (fv:α→List Value) (mk:Nat→α) (w0 w:World) (F:Nat→Prop) (k:Nat):MarkI e eL sz fv mk w0 w F k (.slice none 0 0) []:=
 ⟨OwnL.nil _ _ _ _ _,fun i v hv=>(by cases hv),fun i v b hv=>(by cases hv),Nat.zero_le _,rfl⟩
theorem snoc3_get {l:List Value} {a b c v:Value} {i:Nat} (h:(l++[a]++[b]++[c])[i]?=some v):l[i]?=some v∨(i=l.length∧v=a)∨(i=l.length+1∧v=b)∨(i=l.length+2∧v=c):=by
 rw [List.append_assoc,List.append_assoc] at h
 by_cases hi:i<l.length
 ·rw [List.getElem?_append_left hi] at h;exact Or.inl h
 ·rw [List.getElem?_append_right (by omega)] at h
  obtain⟨j,hj⟩:∃ j,j=i-l.length:=⟨_,rfl⟩
  rw [← hj] at h
  match j,hj,h with
  | 0,hj,h=>exact Or.inr (Or.inl ⟨by omega,(Option.some.inj h).symm⟩)
  | 1,hj,h=>exact Or.inr (Or.inr (Or.inl ⟨by omega,(Option.some.inj h).symm⟩))
  | 2,hj,h=>exact Or.inr (Or.inr (Or.inr ⟨by omega,(Option.some.inj h).symm⟩))
  | j+3,hj,h=>simp at h
theorem MarkI.add {g:Nat} {row:Value→Array Value} {lv v1 v2:Value} {n:Nat} (h:MarkI e eL sz fv mk w0 w F k sv S) (hl:ListIs e eL sz fv mk row w w' w0.heap.size g sv S lv n sv' v1 v2) (hn:n≤19000) (hk:S.length+3≤3*k) (hFl:∀ b,F b→b<w.heap.size) (hg:F g) (hs:∀ b,sv.ownBlock=some b→F b) (hlv:∀ b,lv.ownBlock=some b→¬ F b∧∀ (i:Nat) (v:Value),S[i]?=some v→v.ownBlock≠some b) (hF':∀ b,F' b→F b∨sv'.ownBlock=some b):MarkI e eL sz fv mk w0 w' F' k sv' (S++[lv]++[v1]++[v2]):=by
 have hthree:=h.three
 have e0:S.length-S.length % 3=S.length:=by omega
 have e1:S.length+1-(S.length+1) % 3=S.length:=by omega
 have e2:S.length+2-(S.length+2) % 3=S.length:=by omega
 have old:∀ (i:Nat) (v:Value) (b:Nat),S[i]?=some v→v.ownBlock=some b→b<w.heap.size:=fun i v b hv hb=>by
  obtain⟨n,hn,ho'⟩:=h.each i v hv
  exact (ho'.lt hb).2
 have new:∀ b,(lv.ownBlock=some b∨w.heap.size≤b)→¬ F b:=fun b hb hf=>by
  rcases hb with hb|hb
  ·exact (hlv b hb).1 hf
  ·have:=hFl b hf;omega
 refine⟨hl.lists,fun i v hv=>?_,fun i v b hv hb hf=>?_,?_,?_⟩
 ·rcases snoc3_get hv with hv|⟨rfl,rfl⟩|⟨rfl,rfl⟩|⟨rfl,rfl⟩
  ·obtain⟨m,hm,ho'⟩:=h.each i v hv
   exact⟨m,hm,ho'.only hl.only (fun b hb e=>by
    rcases e with e|e|e
    ·exact (hlv b e).2 i v hv hb
    ·subst e;exact h.mine i v _ hv hb hg
    ·exact h.mine i v b hv hb (hs b e))⟩
  ·exact⟨n,by omega,by rw [e0];exact hl.l0⟩
  ·exact⟨n+1,by omega,by rw [e1];exact hl.l1⟩
  ·exact⟨n+3,by omega,by rw [e2];exact hl.l2⟩
 ·have hap:=fun hsv=>hl.ap b hsv
  rcases snoc3_get hv with hv|⟨rfl,rfl⟩|⟨rfl,rfl⟩|⟨rfl,rfl⟩
  ·rcases hF' b hf with h1|h1
   ·exact h.mine i v b hv hb h1
   ·rcases hl.bs b h1 with h2|h2
    ·exact h.mine i v b hv hb (hs b h2)
    ·have:=old i v b hv hb;omega
  ·rcases hF' b hf with h1|h1
   ·exact new b (Or.inl hb) h1
   ·exact (hap h1).1 hb
  ·rcases hF' b hf with h1|h1
   ·exact new b (hl.b1 b hb) h1
   ·exact (hap h1).2.1 hb
  ·rcases hF' b hf with h1|h1
   ·exact new b (hl.b2 b hb) h1
   ·exact (hap h1).2.2 hb
 ·simp only [List.length_append,List.length_singleton];omega
 ·simp only [List.length_append,List.length_singleton];omega
theorem MarkI.keptBy {β:Type} {e2 eL2:TypeId} {sz2:Nat} {fv2:β→List Value} {mk2:Nat→β} {row:Value→Array Value} {g n:Nat} {tv lv sv'' v1 v2:Value} {S2:List Value} (h:MarkI e eL sz fv mk w0 w F k sv S) (hl:ListIs e2 eL2 sz2 fv2 mk2 row w w' w0.heap.size g tv S2 lv n sv'' v1 v2) (hg:F g) (hs:∀ b,tv.ownBlock=some b→F b) (hsv:∀ b,sv.ownBlock=some b→b≠g∧tv.ownBlock≠some b∧lv.ownBlock≠some b) (hlv:∀ b,lv.ownBlock=some b→∀ (i:Nat) (v:Value),S[i]?=some v→v.ownBlock≠some b) (hF':∀ b,F' b→F b∨w.heap.size≤b):MarkI e eL sz fv mk w0 w' F' k sv S:=by
 refine⟨h.lst.only hl.only (fun b hb e=>?_),fun i v hv=>?_,fun i v b hv hb hf=>?_,h.len,h.three⟩
 ·rcases e with e|e|e
  ·exact (hsv b hb).2.2 e
  ·exact (hsv b hb).1 e
  ·exact (hsv b hb).2.1 e
 ·obtain⟨m,hm,ho'⟩:=h.each i v hv
  exact⟨m,hm,ho'.only hl.only (fun b hb e=>by
   rcases e with e|e|e
   ·exact hlv b e i v hv hb
   ·subst e;exact h.mine i v _ hv hb hg
   ·exact h.mine i v b hv hb (hs b e))⟩
 ·obtain⟨m,hm,ho'⟩:=h.each i v hv
  rcases hF' b hf with h1|h1
  ·exact h.mine i v b hv hb h1
  ·have:=(ho'.lt hb).2;omega
end
abbrev MarkS:=MarkI 94 69 3 s3V mark3
abbrev MarkRec:=MarkI 97 75 3 recV markR
abbrev MarkNot:=MarkI 100 79 2 noV markN
structure LawS (w0:World) (cv:Value) (g k:Nat) (F:Nat→Prop) (w:World) (D:List DS) (t:TV) (S R N:List Value):Prop where
 law:LawW w g cv t.dv t.sv t.rv t.nv
 ds:OwnL 92 2 pairV w w0.heap.size t.dv (D.map fun s=>(s.pd,s.rd))
 docs:∀ s,s ∈ D→DocI w0 w s k
 far:∀ (i j:Nat) (si sj:DS) (a b:DT) (x:Nat),D[i]?=some si→D[j]?=some sj→dblk si a=some x→dblk sj b=some x→i=j
 own:∀ s a x y,s ∈ D→dblk s a=some x→tblk g t y≠some x
 top:∀ a b x,tblk g t a=some x→tblk g t b=some x→a=b
 ms:MarkS w0 w F k t.sv S
 mr:MarkRec w0 w F k t.rv R
 mn:MarkNot w0 w F k t.nv N
 len:D.length≤k
 old:Below w0.heap.size w0 w
 glow:w0.heap.size≤g
 f:∀ b,F b ↔ ((∃ y,tblk g t y=some b)∨∃ s a,s ∈ D∧dblk s a=some b)
def LawI (w0:World) (cv:Value) (g k:Nat) (F:Nat→Prop) (w:World):Prop:=∃ D t S R N,LawS w0 cv g k F w D t S R N
section
variable {w0 w w':World} {cv:Value} {g k:Nat} {F:Nat→Prop} {D:List DS} {t:TV} {S R N:List Value}
theorem LawS.topLow (h:LawS w0 cv g k F w D t S R N):∀ y b,tblk g t y=some b→w0.heap.size≤b∧b<w.heap.size
 | .g,b,hb=>by cases hb;exact⟨h.glow,lt_of_row h.law⟩
 | .d,_,hb=>h.ds.lt hb
 | .s,_,hb=>h.ms.lst.lt hb
 | .r,_,hb=>h.mr.lst.lt hb
 | .n,_,hb=>h.mn.lst.lt hb
theorem LawS.low (h:LawS w0 cv g k F w D t S R N):∀ b,F b→w0.heap.size≤b∧b<w.heap.size:=fun b hb=>by
 rcases (h.f b).1 hb with⟨y,hy⟩|⟨s,a,hs,ha⟩
 ·exact h.topLow y b hy
 ·exact (h.docs s hs).low a b ha
theorem LawS.inF (h:LawS w0 cv g k F w D t S R N) {y:TT} {b:Nat} (hb:tblk g t y=some b):F b:=(h.f b).2 (Or.inl ⟨y,hb⟩)
theorem LawS.frame (h:LawS w0 cv g k F w D t S R N) (hb:Below w.heap.size w w'):LawS w0 cv g k F w' D t S R N:=
 ⟨Below.row hb h.law (lt_of_row h.law),h.ds.below hb,fun s hs=>(h.docs s hs).below hb,h.far,h.own,h.top,h.ms.keep (Only.of_below hb) (fun _ h=>Or.inl h) (h.ms.lst.below hb) (Nat.le_refl k),h.mr.keep (Only.of_below hb) (fun _ h=>Or.inl h) (h.mr.lst.below hb) (Nat.le_refl k),h.mn.keep (Only.of_below hb) (fun _ h=>Or.inl h) (h.mn.lst.below hb) (Nat.le_refl k),h.len,h.old.trans (hb.mono h.old.size),h.glow,h.f⟩
theorem LawS.skip (h:LawS w0 cv g k F w D t S R N):LawS w0 cv g (k+1) F w D t S R N:=
 ⟨h.law,h.ds,fun s hs=>(h.docs s hs).mono (Nat.le_succ k),h.far,h.own,h.top,h.ms.keep (Only.refl _ _) (fun _ h=>Or.inl h) h.ms.lst (Nat.le_succ k),h.mr.keep (Only.refl _ _) (fun _ h=>Or.inl h) h.mr.lst (Nat.le_succ k),h.mn.keep (Only.refl _ _) (fun _ h=>Or.inl h) h.mn.lst (Nat.le_succ k),Nat.le_trans h.len (Nat.le_succ k),h.old,h.glow,h.f⟩
theorem EditOk.pre {s:DS} {w1:World} (hb:Below w.heap.size w w1) (h:EditOk w0 w1 s k w'):EditOk w0 w s k w':=by
 obtain⟨s',h1,h2,h3,h4,h5⟩:=h
 exact⟨s',h1,h2,h3,(Only.of_below hb).trans h4 (fun x hx=>Or.inl hx),fun a x hx=>(h5 a x hx).imp id (fun h=>Nat.le_trans hb.size h)⟩
theorem set_get {α:Type} {l:List α} {i j:Nat} {a b:α} (hi:i<l.length) (h:(l.set i a)[j]?=some b):(j=i∧b=a)∨(j≠i∧l[j]?=some b):=by
 rw [List.getElem?_set] at h
 by_cases hj:i=j
 ·rw [if_pos hj,if_pos (by omega)] at h
  exact Or.inl ⟨hj.symm,(Option.some.inj h).symm⟩
 ·rw [if_neg hj] at h
  exact Or.inr ⟨fun e=>hj e.symm,h⟩
theorem LawS.edit (h:LawS w0 cv g k F w D t S R N) {i:Nat} {s s':DS} (hi:D[i]?=some s) (h1:DocI w0 w' s' (k+1)) (h2:s'.pd=s.pd) (h3:s'.rd=s.rd) (h4:Only (fun b=>∃ a,dblk s a=some b) w w') (h5:∀ a x,dblk s' a=some x→(∃ b,dblk s b=some x)∨w.heap.size≤x):∃ F',LawS w0 cv g (k+1) F' w' (D.set i s') t S R N∧Only F w w'∧(∀ b,F' b→F b∨(w.heap.size≤b∧∃ a,dblk s' a=some b))∧∀ b,t.dv.ownBlock=some b→w'.heap[b]?=w.heap[b]?:=by
 have hil:i<D.length:=(List.getElem?_eq_some_iff.1 hi).1
 have hs:s ∈ D:=List.mem_of_getElem? hi
 have hFs:∀ a x,dblk s a=some x→F x:=fun a x hx=>(h.f x).2 (Or.inr ⟨s,a,hs,hx⟩)
 have hon:Only F w w':=⟨h4.os,h4.tape,h4.output,h4.size,fun k hk hn=>h4.block k hk (fun ⟨a,ha⟩=>hn (hFs a k ha))⟩
 have hlow0:∀ b,(∃ a,dblk s a=some b)→w0.heap.size≤b:=fun b ⟨a,ha⟩=>((h.docs s hs).low a b ha).1
 have hother:∀ t,t ∈ D→∀ j,D[j]?=some t→j≠i→DocI w0 w' t k:=fun t ht j hj hne=>(h.docs t ht).only h4 hlow0 (fun a x hx ⟨b,hb⟩=>hne (h.far j i t s a b x hj hi hx hb))
 have hnt:∀ y b,tblk g t y=some b→¬ ∃ a,dblk s a=some b:=fun y b hy ⟨a,ha⟩=>h.own s a b y hs ha hy
 have hF:∀ b,((∃ y,tblk g t y=some b)∨∃ u a,u ∈ D.set i s'∧dblk u a=some b)→F b∨(w.heap.size≤b∧∃ a,dblk s' a=some b):=fun b hb=>by
  rcases hb with⟨y,hy⟩|⟨u,a,hu,ha⟩
  ·exact Or.inl (h.inF hy)
  ·obtain⟨j,hj,he⟩:=List.getElem_of_mem hu
   have hj':(D.set i s')[j]?=some u:=by rw [← he];exact List.getElem?_eq_getElem hj
   rcases set_get hil hj' with⟨_,rfl⟩|⟨hne,hj2⟩
   ·rcases h5 a b ha with⟨a',ha'⟩|hx
    ·exact Or.inl (hFs a' b ha')
    ·exact Or.inr ⟨hx,a,ha⟩
   ·exact Or.inl ((h.f b).2 (Or.inr ⟨u,a,List.mem_of_getElem? hj2,ha⟩))
 have hF2:∀ b,((∃ y,tblk g t y=some b)∨∃ u a,u ∈ D.set i s'∧dblk u a=some b)→F b∨w.heap.size≤b:=fun b hb=>(hF b hb).imp id (fun h=>h.1)
 refine⟨fun b=>(∃ y,tblk g t y=some b)∨∃ u a,u ∈ D.set i s'∧dblk u a=some b,⟨?_,?_,?_,?_,?_,h.top,?_,?_,?_,by rw [List.length_set];exact Nat.le_trans h.len (Nat.le_succ k),?_,h.glow,fun b=>Iff.rfl⟩,hon,hF,fun b hb=>h4.block b (h.topLow .d b hb).2 (hnt .d b hb)⟩
 ·exact (h4.block g (lt_of_row h.law) (hnt .g g rfl)).trans h.law
 ·have hm:(D.set i s').map (fun s=>(s.pd,s.rd))=D.map fun s=>(s.pd,s.rd):=by
   apply List.ext_getElem?
   intro j
   rw [List.getElem?_map,List.getElem?_map,List.getElem?_set]
   by_cases hj:i=j
   ·subst hj;rw [if_pos rfl,if_pos hil,hi];simp [h2,h3]
   ·rw [if_neg hj]
  rw [hm]
  exact h.ds.only h4 (fun b hb=>hnt .d b hb)
 ·intro u hu
  obtain⟨j,hj,he⟩:=List.getElem_of_mem hu
  have hj':(D.set i s')[j]?=some u:=by rw [← he];exact List.getElem?_eq_getElem hj
  rcases set_get hil hj' with⟨_,rfl⟩|⟨hne,hj2⟩
  ·exact h1
  ·exact (hother u (List.mem_of_getElem? hj2) j hj2 hne).mono (Nat.le_succ k)
 ·intro j l sj sl a b x hj hl ha hb
  rcases set_get hil hj with⟨rfl,rfl⟩|⟨hne,hj2⟩
  ·rcases set_get hil hl with⟨rfl,_⟩|⟨hne2,hl2⟩
   ·rfl
   ·exfalso
    rcases h5 a x ha with⟨a',ha'⟩|hx
    ·exact hne2 (h.far l j sl s b a' x hl2 hi hb ha')
    ·have:=((h.docs sl (List.mem_of_getElem? hl2)).low b x hb).2;omega
  ·rcases set_get hil hl with⟨rfl,rfl⟩|⟨hne2,hl2⟩
   ·exfalso
    rcases h5 b x hb with⟨a',ha'⟩|hx
    ·exact hne (h.far j l sj s a a' x hj2 hi ha ha')
    ·have:=((h.docs sj (List.mem_of_getElem? hj2)).low a x ha).2;omega
   ·exact h.far j l sj sl a b x hj2 hl2 ha hb
 ·intro u a x y hu ha hy
  obtain⟨j,hj,he⟩:=List.getElem_of_mem hu
  have hj':(D.set i s')[j]?=some u:=by rw [← he];exact List.getElem?_eq_getElem hj
  rcases set_get hil hj' with⟨_,rfl⟩|⟨hne,hj2⟩
  ·rcases h5 a x ha with⟨a',ha'⟩|hx
   ·exact h.own s a' x y hs ha' hy
   ·have:=(h.topLow y x hy).2;omega
  ·exact h.own u a x y (List.mem_of_getElem? hj2) ha hy
 ·exact h.ms.keep hon hF2 (h.ms.lst.only h4 (fun b hb=>hnt .s b hb)) (Nat.le_succ k)
 ·exact h.mr.keep hon hF2 (h.mr.lst.only h4 (fun b hb=>hnt .r b hb)) (Nat.le_succ k)
 ·exact h.mn.keep hon hF2 (h.mn.lst.only h4 (fun b hb=>hnt .n b hb)) (Nat.le_succ k)
 ·exact h.old.trans (h4.below hlow0 h.old.size)
theorem LawS.addS (h:LawS w0 cv g k F w D t S R N) {lv v1 v2 sv':Value} {n:Nat} (hl:ListIs 94 69 3 s3V mark3 (fun x=>#[cv,t.dv,x,t.rv,t.nv]) w w' w0.heap.size g t.sv S lv n sv' v1 v2) (hn:n≤19000) (hk:S.length+3≤3*k) (hlv:∀ b,lv.ownBlock=some b→¬ F b∧(∀ (i:Nat) (v:Value),S[i]?=some v→v.ownBlock≠some b)∧(∀ (i:Nat) (v:Value),R[i]?=some v→v.ownBlock≠some b)∧∀ (i:Nat) (v:Value),N[i]?=some v→v.ownBlock≠some b) :
  ∃ F',LawS w0 cv g k F' w' D ⟨t.dv,sv',t.rv,t.nv⟩ (S++[lv]++[v1]++[v2]) R N∧Only (fun b=>F b∨lv.ownBlock=some b) w w'∧(∀ b,F' b→F b∨w.heap.size≤b)∧∀ b,t.dv.ownBlock=some b→w'.heap[b]?=w.heap[b]?:=by
 have hFg:F g:=h.inF (y:=.g) rfl
 have hFs:∀ b,t.sv.ownBlock=some b→F b:=fun b hb=>h.inF (y:=.s) hb
 have hblk:∀ y b,tblk g ⟨t.dv,sv',t.rv,t.nv⟩ y=some b→(y=.s∧sv'.ownBlock=some b)∨(y≠.s∧tblk g t y=some b):=by
  intro y b hb
  cases y <;> first|exact Or.inl ⟨rfl,hb⟩|exact Or.inr ⟨by simp,hb⟩
 have hF:∀ b,((∃ y,tblk g ⟨t.dv,sv',t.rv,t.nv⟩ y=some b)∨∃ u a,u ∈ D∧dblk u a=some b)→F b∨sv'.ownBlock=some b:=fun b hb=>by
  rcases hb with⟨y,hy⟩|hu
  ·rcases hblk y b hy with⟨_,h1⟩|⟨_,h1⟩
   ·exact Or.inr h1
   ·exact Or.inl (h.inF h1)
  ·exact Or.inl ((h.f b).2 (Or.inr hu))
 have hF2:∀ b,((∃ y,tblk g ⟨t.dv,sv',t.rv,t.nv⟩ y=some b)∨∃ u a,u ∈ D∧dblk u a=some b)→F b∨w.heap.size≤b:=fun b hb=>by
  rcases hF b hb with h1|h1
  ·exact Or.inl h1
  ·exact (hl.bs b h1).imp (hFs b) id
 have hFl:∀ b,F b→b<w.heap.size:=fun b hb=>(h.low b hb).2
 have hnot:∀ y b,y≠TT.g→y≠TT.s→tblk g t y=some b→¬ (lv.ownBlock=some b∨b=g∨t.sv.ownBlock=some b):=fun y b h1 h2 hy e=>by
  rcases e with e|e|e
  ·exact (hlv b e).1 (h.inF hy)
  ·exact h1 (h.top y .g b hy (by rw [e];rfl))
  ·exact h2 (h.top y .s b hy e)
 have hdn:∀ s a b,s ∈ D→dblk s a=some b→¬ (lv.ownBlock=some b∨b=g∨t.sv.ownBlock=some b):=fun s a b hs ha e=>by
  rcases e with e|e|e
  ·exact (hlv b e).1 ((h.f b).2 (Or.inr ⟨s,a,hs,ha⟩))
  ·exact h.own s a b .g hs ha (by rw [e];rfl)
  ·exact h.own s a b .s hs ha e
 have hlow0:∀ b,(lv.ownBlock=some b∨b=g∨t.sv.ownBlock=some b)→w0.heap.size≤b:=fun b e=>by
  rcases e with e|e|e
  ·exact (hl.l0.lt e).1
  ·rw [e];exact h.glow
  ·exact (h.topLow .s b e).1
 have hcross:∀ y,y≠TT.g→y≠TT.s→∀ b,tblk g t y=some b→b≠g∧t.sv.ownBlock≠some b∧lv.ownBlock≠some b:=fun y h1 h2 b hy=>⟨fun e=>hnot y b h1 h2 hy (Or.inr (Or.inl e)),fun e=>hnot y b h1 h2 hy (Or.inr (Or.inr e)),fun e=>hnot y b h1 h2 hy (Or.inl e)⟩
 refine⟨fun b=>(∃ y,tblk g ⟨t.dv,sv',t.rv,t.nv⟩ y=some b)∨∃ u a,u ∈ D∧dblk u a=some b,⟨hl.law,h.ds.only hl.only (fun b hb=>hnot .d b (by simp) (by simp) hb),fun s hs=>(h.docs s hs).only hl.only hlow0 (fun a b hb=>hdn s a b hs hb),h.far,?_,?_,h.ms.add hl hn hk hFl hFg hFs (fun b hb=>⟨(hlv b hb).1,(hlv b hb).2.1⟩) hF,h.mr.keptBy hl hFg hFs (hcross .r (by simp) (by simp)) (fun b hb=>(hlv b hb).2.2.1) hF2,h.mn.keptBy hl hFg hFs (hcross .n (by simp) (by simp)) (fun b hb=>(hlv b hb).2.2.2) hF2,h.len,h.old.trans (hl.only.below hlow0 h.old.size),h.glow,fun b=>Iff.rfl⟩,⟨hl.only.os,hl.only.tape,hl.only.output,hl.only.size,fun j hj hn=>hl.only.block j hj (fun e=>hn (by
  rcases e with e|e|e
  ·exact Or.inr e
  ·rw [e];exact Or.inl hFg
  ·exact Or.inl (hFs j e)))⟩,hF2,fun b hb=>hl.only.block b (h.topLow .d b hb).2 (hnot .d b (by simp) (by simp) hb)⟩
 ·intro s a x y hs ha hy
  rcases hblk y x hy with⟨_,h1⟩|⟨_,h1⟩
  ·rcases hl.bs x h1 with h2|h2
   ·exact h.own s a x .s hs ha h2
   ·have:=((h.docs s hs).low a x ha).2;omega
  ·exact h.own s a x y hs ha h1
 ·intro a b x ha hb
  rcases hblk a x ha with⟨rfl,h1⟩|⟨ha',h1⟩
  ·rcases hblk b x hb with⟨rfl,_⟩|⟨hb',h2⟩
   ·rfl
   ·rcases hl.bs x h1 with h3|h3
    ·exact absurd (h.top .s b x h3 h2).symm hb'
    ·have:=(h.topLow b x h2).2;omega
  ·rcases hblk b x hb with⟨rfl,h2⟩|⟨_,h2⟩
   ·rcases hl.bs x h2 with h3|h3
    ·exact absurd (h.top a .s x h1 h3) ha'
    ·have:=(h.topLow a x h1).2;omega
   ·exact h.top a b x h1 h2
theorem LawS.addR (h:LawS w0 cv g k F w D t S R N) {lv v1 v2 sv':Value} {n:Nat} (hl:ListIs 97 75 3 recV markR (fun x=>#[cv,t.dv,t.sv,x,t.nv]) w w' w0.heap.size g t.rv R lv n sv' v1 v2) (hn:n≤19000) (hk:R.length+3≤3*k) (hlv:∀ b,lv.ownBlock=some b→¬ F b∧(∀ (i:Nat) (v:Value),S[i]?=some v→v.ownBlock≠some b)∧(∀ (i:Nat) (v:Value),R[i]?=some v→v.ownBlock≠some b)∧∀ (i:Nat) (v:Value),N[i]?=some v→v.ownBlock≠some b) :
  ∃ F',LawS w0 cv g k F' w' D ⟨t.dv,t.sv,sv',t.nv⟩ S (R++[lv]++[v1]++[v2]) N∧Only (fun b=>F b∨lv.ownBlock=some b) w w'∧(∀ b,F' b→F b∨w.heap.size≤b)∧∀ b,t.dv.ownBlock=some b→w'.heap[b]?=w.heap[b]?:=by
 have hFg:F g:=h.inF (y:=.g) rfl
 have hFs:∀ b,t.rv.ownBlock=some b→F b:=fun b hb=>h.inF (y:=.r) hb
 have hblk:∀ y b,tblk g ⟨t.dv,t.sv,sv',t.nv⟩ y=some b→(y=.r∧sv'.ownBlock=some b)∨(y≠.r∧tblk g t y=some b):=by
  intro y b hb
  cases y <;> first|exact Or.inl ⟨rfl,hb⟩|exact Or.inr ⟨by simp,hb⟩
 have hF:∀ b,((∃ y,tblk g ⟨t.dv,t.sv,sv',t.nv⟩ y=some b)∨∃ u a,u ∈ D∧dblk u a=some b)→F b∨sv'.ownBlock=some b:=fun b hb=>by
  rcases hb with⟨y,hy⟩|hu
  ·rcases hblk y b hy with⟨_,h1⟩|⟨_,h1⟩
   ·exact Or.inr h1
   ·exact Or.inl (h.inF h1)
  ·exact Or.inl ((h.f b).2 (Or.inr hu))
 have hF2:∀ b,((∃ y,tblk g ⟨t.dv,t.sv,sv',t.nv⟩ y=some b)∨∃ u a,u ∈ D∧dblk u a=some b)→F b∨w.heap.size≤b:=fun b hb=>by
  rcases hF b hb with h1|h1
  ·exact Or.inl h1
  ·exact (hl.bs b h1).imp (hFs b) id
 have hFl:∀ b,F b→b<w.heap.size:=fun b hb=>(h.low b hb).2
 have hnot:∀ y b,y≠TT.g→y≠TT.r→tblk g t y=some b→¬ (lv.ownBlock=some b∨b=g∨t.rv.ownBlock=some b):=fun y b h1 h2 hy e=>by
  rcases e with e|e|e
  ·exact (hlv b e).1 (h.inF hy)
  ·exact h1 (h.top y .g b hy (by rw [e];rfl))
  ·exact h2 (h.top y .r b hy e)
 have hdn:∀ s a b,s ∈ D→dblk s a=some b→¬ (lv.ownBlock=some b∨b=g∨t.rv.ownBlock=some b):=fun s a b hs ha e=>by
  rcases e with e|e|e
  ·exact (hlv b e).1 ((h.f b).2 (Or.inr ⟨s,a,hs,ha⟩))
  ·exact h.own s a b .g hs ha (by rw [e];rfl)
  ·exact h.own s a b .r hs ha e
 have hlow0:∀ b,(lv.ownBlock=some b∨b=g∨t.rv.ownBlock=some b)→w0.heap.size≤b:=fun b e=>by
  rcases e with e|e|e
  ·exact (hl.l0.lt e).1
  ·rw [e];exact h.glow
  ·exact (h.topLow .r b e).1
 have hcross:∀ y,y≠TT.g→y≠TT.r→∀ b,tblk g t y=some b→b≠g∧t.rv.ownBlock≠some b∧lv.ownBlock≠some b:=fun y h1 h2 b hy=>⟨fun e=>hnot y b h1 h2 hy (Or.inr (Or.inl e)),fun e=>hnot y b h1 h2 hy (Or.inr (Or.inr e)),fun e=>hnot y b h1 h2 hy (Or.inl e)⟩
 refine⟨fun b=>(∃ y,tblk g ⟨t.dv,t.sv,sv',t.nv⟩ y=some b)∨∃ u a,u ∈ D∧dblk u a=some b,⟨hl.law,h.ds.only hl.only (fun b hb=>hnot .d b (by simp) (by simp) hb),fun s hs=>(h.docs s hs).only hl.only hlow0 (fun a b hb=>hdn s a b hs hb),h.far,?_,?_,h.ms.keptBy hl hFg hFs (hcross .s (by simp) (by simp)) (fun b hb=>(hlv b hb).2.1) hF2,h.mr.add hl hn hk hFl hFg hFs (fun b hb=>⟨(hlv b hb).1,(hlv b hb).2.2.1⟩) hF,h.mn.keptBy hl hFg hFs (hcross .n (by simp) (by simp)) (fun b hb=>(hlv b hb).2.2.2) hF2,h.len,h.old.trans (hl.only.below hlow0 h.old.size),h.glow,fun b=>Iff.rfl⟩,⟨hl.only.os,hl.only.tape,hl.only.output,hl.only.size,fun j hj hn=>hl.only.block j hj (fun e=>hn (by
  rcases e with e|e|e
  ·exact Or.inr e
  ·rw [e];exact Or.inl hFg
  ·exact Or.inl (hFs j e)))⟩,hF2,fun b hb=>hl.only.block b (h.topLow .d b hb).2 (hnot .d b (by simp) (by simp) hb)⟩
 ·intro s a x y hs ha hy
  rcases hblk y x hy with⟨_,h1⟩|⟨_,h1⟩
  ·rcases hl.bs x h1 with h2|h2
   ·exact h.own s a x .r hs ha h2
   ·have:=((h.docs s hs).low a x ha).2;omega
  ·exact h.own s a x y hs ha h1
 ·intro a b x ha hb
  rcases hblk a x ha with⟨rfl,h1⟩|⟨ha',h1⟩
  ·rcases hblk b x hb with⟨rfl,_⟩|⟨hb',h2⟩
   ·rfl
   ·rcases hl.bs x h1 with h3|h3
    ·exact absurd (h.top .r b x h3 h2).symm hb'
    ·have:=(h.topLow b x h2).2;omega
  ·rcases hblk b x hb with⟨rfl,h2⟩|⟨_,h2⟩
   ·rcases hl.bs x h2 with h3|h3
    ·exact absurd (h.top a .r x h1 h3) ha'
    ·have:=(h.topLow a x h1).2;omega
   ·exact h.top a b x h1 h2
theorem LawS.addN (h:LawS w0 cv g k F w D t S R N) {lv v1 v2 sv':Value} {n:Nat} (hl:ListIs 100 79 2 noV markN (fun x=>#[cv,t.dv,t.sv,t.rv,x]) w w' w0.heap.size g t.nv N lv n sv' v1 v2) (hn:n≤19000) (hk:N.length+3≤3*k) (hlv:∀ b,lv.ownBlock=some b→¬ F b∧(∀ (i:Nat) (v:Value),S[i]?=some v→v.ownBlock≠some b)∧(∀ (i:Nat) (v:Value),R[i]?=some v→v.ownBlock≠some b)∧∀ (i:Nat) (v:Value),N[i]?=some v→v.ownBlock≠some b) :
  ∃ F',LawS w0 cv g k F' w' D ⟨t.dv,t.sv,t.rv,sv'⟩ S R (N++[lv]++[v1]++[v2])∧Only (fun b=>F b∨lv.ownBlock=some b) w w'∧(∀ b,F' b→F b∨w.heap.size≤b)∧∀ b,t.dv.ownBlock=some b→w'.heap[b]?=w.heap[b]?:=by
 have hFg:F g:=h.inF (y:=.g) rfl
 have hFs:∀ b,t.nv.ownBlock=some b→F b:=fun b hb=>h.inF (y:=.n) hb
 have hblk:∀ y b,tblk g ⟨t.dv,t.sv,t.rv,sv'⟩ y=some b→(y=.n∧sv'.ownBlock=some b)∨(y≠.n∧tblk g t y=some b):=by
  intro y b hb
  cases y <;> first|exact Or.inl ⟨rfl,hb⟩|exact Or.inr ⟨by simp,hb⟩
 have hF:∀ b,((∃ y,tblk g ⟨t.dv,t.sv,t.rv,sv'⟩ y=some b)∨∃ u a,u ∈ D∧dblk u a=some b)→F b∨sv'.ownBlock=some b:=fun b hb=>by
  rcases hb with⟨y,hy⟩|hu
  ·rcases hblk y b hy with⟨_,h1⟩|⟨_,h1⟩
   ·exact Or.inr h1
   ·exact Or.inl (h.inF h1)
  ·exact Or.inl ((h.f b).2 (Or.inr hu))
 have hF2:∀ b,((∃ y,tblk g ⟨t.dv,t.sv,t.rv,sv'⟩ y=some b)∨∃ u a,u ∈ D∧dblk u a=some b)→F b∨w.heap.size≤b:=fun b hb=>by
  rcases hF b hb with h1|h1
  ·exact Or.inl h1
  ·exact (hl.bs b h1).imp (hFs b) id
 have hFl:∀ b,F b→b<w.heap.size:=fun b hb=>(h.low b hb).2
 have hnot:∀ y b,y≠TT.g→y≠TT.n→tblk g t y=some b→¬ (lv.ownBlock=some b∨b=g∨t.nv.ownBlock=some b):=fun y b h1 h2 hy e=>by
  rcases e with e|e|e
  ·exact (hlv b e).1 (h.inF hy)
  ·exact h1 (h.top y .g b hy (by rw [e];rfl))
  ·exact h2 (h.top y .n b hy e)
 have hdn:∀ s a b,s ∈ D→dblk s a=some b→¬ (lv.ownBlock=some b∨b=g∨t.nv.ownBlock=some b):=fun s a b hs ha e=>by
  rcases e with e|e|e
  ·exact (hlv b e).1 ((h.f b).2 (Or.inr ⟨s,a,hs,ha⟩))
  ·exact h.own s a b .g hs ha (by rw [e];rfl)
  ·exact h.own s a b .n hs ha e
 have hlow0:∀ b,(lv.ownBlock=some b∨b=g∨t.nv.ownBlock=some b)→w0.heap.size≤b:=fun b e=>by
  rcases e with e|e|e
  ·exact (hl.l0.lt e).1
  ·rw [e];exact h.glow
  ·exact (h.topLow .n b e).1
 have hcross:∀ y,y≠TT.g→y≠TT.n→∀ b,tblk g t y=some b→b≠g∧t.nv.ownBlock≠some b∧lv.ownBlock≠some b:=fun y h1 h2 b hy=>⟨fun e=>hnot y b h1 h2 hy (Or.inr (Or.inl e)),fun e=>hnot y b h1 h2 hy (Or.inr (Or.inr e)),fun e=>hnot y b h1 h2 hy (Or.inl e)⟩
 refine⟨fun b=>(∃ y,tblk g ⟨t.dv,t.sv,t.rv,sv'⟩ y=some b)∨∃ u a,u ∈ D∧dblk u a=some b,⟨hl.law,h.ds.only hl.only (fun b hb=>hnot .d b (by simp) (by simp) hb),fun s hs=>(h.docs s hs).only hl.only hlow0 (fun a b hb=>hdn s a b hs hb),h.far,?_,?_,h.ms.keptBy hl hFg hFs (hcross .s (by simp) (by simp)) (fun b hb=>(hlv b hb).2.1) hF2,h.mr.keptBy hl hFg hFs (hcross .r (by simp) (by simp)) (fun b hb=>(hlv b hb).2.2.1) hF2,h.mn.add hl hn hk hFl hFg hFs (fun b hb=>⟨(hlv b hb).1,(hlv b hb).2.2.2⟩) hF,h.len,h.old.trans (hl.only.below hlow0 h.old.size),h.glow,fun b=>Iff.rfl⟩,⟨hl.only.os,hl.only.tape,hl.only.output,hl.only.size,fun j hj hn=>hl.only.block j hj (fun e=>hn (by
  rcases e with e|e|e
  ·exact Or.inr e
  ·rw [e];exact Or.inl hFg
  ·exact Or.inl (hFs j e)))⟩,hF2,fun b hb=>hl.only.block b (h.topLow .d b hb).2 (hnot .d b (by simp) (by simp) hb)⟩
 ·intro s a x y hs ha hy
  rcases hblk y x hy with⟨_,h1⟩|⟨_,h1⟩
  ·rcases hl.bs x h1 with h2|h2
   ·exact h.own s a x .n hs ha h2
   ·have:=((h.docs s hs).low a x ha).2;omega
  ·exact h.own s a x y hs ha h1
 ·intro a b x ha hb
  rcases hblk a x ha with⟨rfl,h1⟩|⟨ha',h1⟩
  ·rcases hblk b x hb with⟨rfl,_⟩|⟨hb',h2⟩
   ·rfl
   ·rcases hl.bs x h1 with h3|h3
    ·exact absurd (h.top .n b x h3 h2).symm hb'
    ·have:=(h.topLow b x h2).2;omega
  ·rcases hblk b x hb with⟨rfl,h2⟩|⟨_,h2⟩
   ·rcases hl.bs x h2 with h3|h3
    ·exact absurd (h.top a .n x h1 h3) ha'
    ·have:=(h.topLow a x h1).2;omega
   ·exact h.top a b x h1 h2
theorem LawS.opened (h:LawS w0 cv g k F w D t S R N) {c:Cfg} {v:CfgV} {gd rd:Nat} {rv dv':Value} (hc:CheckIs c 0) (hok:CfgOk c) (hat:CfgAt w0 c v) (ho:OpenIs c.n (tT c) (grF c) c v g w0.heap.size (D.map fun s=>(s.pd,s.rd)) cv t.dv t.sv t.rv t.nv w w' gd rd rv dv'):∃ F',LawI w0 cv g (k+1) F' w'∧Only F w w'∧∀ b,F' b→F b∨w.heap.size≤b:=by
 have hw0:=h.old.size
 have hs:=ho.only.size
 have hinF:∀ b,(b=g∨t.dv.ownBlock=some b)→F b:=fun b e=>by
  rcases e with e|e
  ·exact h.inF (y:=.g) (by rw [e];rfl)
  ·exact h.inF (y:=.d) e
 have hon:Only F w w':=⟨ho.only.os,ho.only.tape,ho.only.output,ho.only.size,fun j hj hn=>ho.only.block j hj (fun e=>hn (hinF j e))⟩
 have hlowF:∀ b,(b=g∨t.dv.ownBlock=some b)→w0.heap.size≤b:=fun b hb=>(h.low b (hinF b hb)).1
 have hold:Below w0.heap.size w0 w':=h.old.trans (ho.only.below hlowF hw0)
 have hrvl:∀ b,rv.ownBlock=some b→w.heap.size≤b∧b<w'.heap.size:=fun b hb=>ho.rules.lt hb
 let s:DS:=⟨gd,rd,c,v,[],[],.slice none 0 0,.slice none 0 0,⟨rv,.slice none 0 0,nwZ⟩⟩
 have hblk:∀ a x,dblk s a=some x→(a=.ref .box∧x=rd)∨(a=.own .box∧x=gd)∨(a=.own .rules∧rv.ownBlock=some x):=by
  intro a x hx
  cases a with
  | ref p=>
   cases p with
   | box=>exact Or.inl ⟨rfl,(Option.some.inj hx).symm⟩
   | row=>cases hx
   | acts=>cases hx
   | mk i=>simp [dblk,blkOf',s] at hx
  | own p=>
   cases p with
   | box=>exact Or.inr (Or.inl ⟨rfl,(Option.some.inj hx).symm⟩)
   | rules=>exact Or.inr (Or.inr ⟨rfl,hx⟩)
   | cells=>cases hx
   | log i=>have:=(pblk_log' (g:=gd) hx).2;cases this
   | wait i=>have:=(pblk_wait' (g:=gd) hx).2;cases this
 have hnew:∀ a x,dblk s a=some x→w.heap.size≤x∧x<w'.heap.size:=fun a x hx=>by
  rcases hblk a x hx with⟨_,rfl⟩|⟨_,rfl⟩|⟨_,hb⟩
  ·exact⟨ho.rdl,ho.rbox.lt⟩
  ·exact⟨ho.gdl,ho.pbox.lt⟩
  ·exact hrvl x hb
 have hdvn:∀ a x,dblk s a=some x→dv'.ownBlock≠some x:=fun a x hx e=>by
  rcases ho.dvb x e with h1|⟨_,h1,h2,h3⟩
  ·have:=(h.ds.lt h1).2;have:=(hnew a x hx).1;omega
  ·rcases hblk a x hx with⟨_,rfl⟩|⟨_,rfl⟩|⟨_,hb⟩
   ·exact h2 rfl
   ·exact h1 rfl
   ·exact h3 x hb rfl
 have hapart:∀ a b x,dblk s a=some x→dblk s b=some x→a=b:=by
  intro a b x ha hb
  rcases hblk a x ha with⟨rfl,h1⟩|⟨rfl,h1⟩|⟨rfl,h1⟩
  ·rcases hblk b x hb with⟨rfl,h2⟩|⟨rfl,h2⟩|⟨rfl,h2⟩
   ·rfl
   ·exact absurd (h2.symm.trans h1) ho.gr
   ·exact absurd h1 (ho.rgd x h2).2
  ·rcases hblk b x hb with⟨rfl,h2⟩|⟨rfl,h2⟩|⟨rfl,h2⟩
   ·exact absurd (h1.symm.trans h2) ho.gr
   ·rfl
   ·exact absurd h1 (ho.rgd x h2).1
  ·rcases hblk b x hb with⟨rfl,h2⟩|⟨rfl,h2⟩|⟨rfl,h2⟩
   ·exact absurd h2 (ho.rgd x h1).2
   ·exact absurd h2 (ho.rgd x h1).1
   ·rfl
 have hpd:PDocO w0.heap.size w' gd c [] (ownC []) (logOf c []) (verOf c []) (waitOf c []) ⟨rv,.slice none 0 0,nwZ⟩:=
  ⟨ho.pbox,ho.rules.mono hw0,OwnL.nil _ _ _ _ _,fun _ _=>OwnL.nil _ _ _ _ _,fun _ _=>rfl,fun _ _=>OwnL.nil _ _ _ _ _,fun a b x ha hb=>by have:=hapart (.own a) (.own b) x ha hb;injection this,fun a x hx=>⟨Nat.le_trans hw0 (hnew (.own a) x hx).1,(hnew (.own a) x hx).2⟩⟩
 have hsd:DocI w0 w' s (k+1):=by
  refine⟨⟨ho.rbox,hat,hold,OwnL.nil _ _ _ _ _,fun i p hp=>(by cases hp),OwnL.nil _ _ _ _ _,⟨fun p q b hp hq=>?_,fun p b hp=>⟨Nat.le_trans hw0 (hnew (.ref p) b hp).1,(hnew (.ref p) b hp).2⟩⟩⟩,hpd,CfgRight.is hc,hok,⟨fun x hx=>(by cases hx),fun l=>Nat.zero_le _⟩,fun x hx=>(by cases hx),⟨Nat.zero_le _,fun a ha=>(by cases ha)⟩,fun _ _=>WOk.nil,fun _ _=>Nat.zero_le _,fun a p x ha hb=>?_⟩
  ·have:=hapart (.ref p) (.ref q) b hp hq;injection this
  ·have:=hapart (.own a) (.ref p) x ha hb;cases this
 have hdocs:∀ u,u ∈ D→DocI w0 w' u k:=fun u hu=>(h.docs u hu).only ho.only hlowF (fun a x hx e=>by
  rcases e with e|e
  ·exact h.own u a x .g hu hx (by rw [e];rfl)
  ·exact h.own u a x .d hu hx e)
 have hDl:∀ u a x,u ∈ D→dblk u a=some x→x<w.heap.size:=fun u a x hu hx=>((h.docs u hu).low a x hx).2
 have htb:∀ y b,tblk g ⟨dv',t.sv,t.rv,t.nv⟩ y=some b→(y=.d∧dv'.ownBlock=some b)∨(y≠.d∧tblk g t y=some b):=by
  intro y b hb
  cases y <;> first|exact Or.inl ⟨rfl,hb⟩|exact Or.inr ⟨by simp,hb⟩
 have hF:∀ b,((∃ y,tblk g ⟨dv',t.sv,t.rv,t.nv⟩ y=some b)∨∃ u a,u ∈ D++[s]∧dblk u a=some b)→F b∨w.heap.size≤b:=fun b hb=>by
  rcases hb with⟨y,hy⟩|⟨u,a,hu,ha⟩
  ·rcases htb y b hy with⟨_,h1⟩|⟨_,h1⟩
   ·rcases ho.dvb b h1 with h2|⟨h2,_⟩
    ·exact Or.inl (h.inF (y:=.d) h2)
    ·exact Or.inr h2
   ·exact Or.inl (h.inF h1)
  ·simp only [List.mem_append,List.mem_singleton] at hu
   rcases hu with hu|rfl
   ·exact Or.inl ((h.f b).2 (Or.inr ⟨u,a,hu,ha⟩))
   ·exact Or.inr (hnew a b ha).1
 have hnt:∀ y,y≠TT.g→y≠TT.d→∀ b,tblk g t y=some b→¬ (b=g∨t.dv.ownBlock=some b):=fun y h1 h2 b hy e=>by
  rcases e with e|e
  ·exact h1 (h.top y .g b hy (by rw [e];rfl))
  ·exact h2 (h.top y .d b hy e)
 refine⟨fun b=>(∃ y,tblk g ⟨dv',t.sv,t.rv,t.nv⟩ y=some b)∨∃ u a,u ∈ D++[s]∧dblk u a=some b,⟨D++[s],⟨dv',t.sv,t.rv,t.nv⟩,S,R,N,⟨ho.law,?_,?_,?_,?_,?_,?_,?_,?_,?_,hold,h.glow,fun b=>Iff.rfl⟩⟩,hon,hF⟩
 ·rw [List.map_append];exact ho.ds
 ·intro u hu
  simp only [List.mem_append,List.mem_singleton] at hu
  rcases hu with hu|rfl
  ·exact (hdocs u hu).mono (Nat.le_succ k)
  ·exact hsd
 ·intro i j si sj a b x hi hj ha hb
  have split:∀ i si,(D++[s])[i]?=some si→(i<D.length∧D[i]?=some si)∨(i=D.length∧si=s):=fun i si hi=>by
   by_cases hlt:i<D.length
   ·rw [List.getElem?_append_left hlt] at hi;exact Or.inl ⟨hlt,hi⟩
   ·rw [List.getElem?_append_right (by omega)] at hi
    have hz:i-D.length=0:=by
     have:=(List.getElem?_eq_some_iff.1 hi).1
     simp at this;omega
    rw [hz] at hi
    exact Or.inr ⟨by omega,(Option.some.inj hi).symm⟩
  rcases split i si hi with⟨h1,h2⟩|⟨h1,rfl⟩
  ·rcases split j sj hj with⟨h3,h4⟩|⟨h3,rfl⟩
   ·exact h.far i j si sj a b x h2 h4 ha hb
   ·have:=hDl si a x (List.mem_of_getElem? h2) ha;have:=(hnew b x hb).1;omega
  ·rcases split j sj hj with⟨h3,h4⟩|⟨h3,rfl⟩
   ·have:=hDl sj b x (List.mem_of_getElem? h4) hb;have:=(hnew a x ha).1;omega
   ·omega
 ·intro u a x y hu ha hy
  simp only [List.mem_append,List.mem_singleton] at hu
  rcases hu with hu|rfl
  ·rcases htb y x hy with⟨_,h1⟩|⟨_,h1⟩
   ·rcases ho.dvb x h1 with h2|⟨h2,_⟩
    ·exact h.own u a x .d hu ha h2
    ·have:=hDl u a x hu ha;omega
   ·exact h.own u a x y hu ha h1
  ·rcases htb y x hy with⟨_,h1⟩|⟨_,h1⟩
   ·exact hdvn a x ha h1
   ·have:=(hnew a x ha).1;have:=(h.topLow y x h1).2;omega
 ·intro a b x ha hb
  rcases htb a x ha with⟨rfl,h1⟩|⟨ha',h1⟩
  ·rcases htb b x hb with⟨rfl,_⟩|⟨hb',h2⟩
   ·rfl
   ·rcases ho.dvb x h1 with h3|⟨h3,_⟩
    ·exact absurd (h.top .d b x h3 h2).symm hb'
    ·have:=(h.topLow b x h2).2;omega
  ·rcases htb b x hb with⟨rfl,h2⟩|⟨_,h2⟩
   ·rcases ho.dvb x h2 with h3|⟨h3,_⟩
    ·exact absurd (h.top a .d x h1 h3) ha'
    ·have:=(h.topLow a x h1).2;omega
   ·exact h.top a b x h1 h2
 ·exact h.ms.keep hon hF (h.ms.lst.only ho.only (hnt .s (by simp) (by simp))) (Nat.le_succ k)
 ·exact h.mr.keep hon hF (h.mr.lst.only ho.only (hnt .r (by simp) (by simp))) (Nat.le_succ k)
 ·exact h.mn.keep hon hF (h.mn.lst.only ho.only (hnt .n (by simp) (by simp))) (Nat.le_succ k)
 ·rw [List.length_append];have:=h.len;simp;omega
end
end Go.Proofs.YtgigkiocdiffjaaGreat
