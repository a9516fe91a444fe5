import Derived.Test.YtgigkiocdiffjaaGreatS09
import Derived.Laws.AppendOwnNone
import Derived.Test.YtgigkiocdiffjaaGreatS10
import Derived.Laws.Strings
set_option maxRecDepth 100000
set_option maxHeartbeats 16000000
namespace Go.Proofs.YtgigkiocdiffjaaGreat
open Go.RowKit Veil
section
variable {α:Type} {e:TypeId} {sz:Nat} {f:α→List Value} {w:World} {B:Nat} {v:Value} {l:List α}
theorem flat_length (hf:∀ a,(f a).length=sz):∀ xs:List α,(xs.flatMap f).length=xs.length*sz
 | []=>by simp
 | b :: xs=>by simp only [List.flatMap_cons,List.length_append,hf,flat_length hf xs,List.length_cons,Nat.add_mul];omega
theorem wpList_pushes {P:Program} {ops:Array Oper} {rest:List Oper} {o:Oper} {act:Act} {Q:Exit→Act→World→Prop} (hgd:o.guard=none) (s x:Operand) (t:TypeId)
  (ho:o.op=.call { callee:=.builtin .append,args:=#[s,x],argTypes:=#[t,t] }) (z:Value) (bytes:Nat) (ht:P.underlying t=some (.slice e)) (hinfo:(P.info? e).map (fun i=>(i.zero,i.size,i.bytes))=some (some z,sz,bytes)) (hzs:z.cells.size=sz) (hsz:0<sz)
  (hs:act.eval s=v) (hown:OwnL e sz f w B v l) (so:Option Addr) (m c:Nat) (xs:List α) (hx:act.eval x=.slice so m c) (hm:xs.length=m) (hsrc:so=none→m=0∧c=0) (hcell:∀ a,so=some a→∀ j u,(xs.flatMap f)[j]?=some u→w.cell? (a.add j)=some u)
  (hfl:∀ a,(f a).length=sz) (h1:∀ a,a ∈ xs→∀ u ∈ f a,u.oneCell'=true) (hby:(l.length+m)*bytes≤140737488355328) (hb1:0<bytes) (hbase:B≤w.heap.size)
  (h:∀ v' w',OwnL e sz f w' B v' (l++xs)→w.grownBy w' v.ownBlock→(v'.ownBlock=v.ownBlock∨v'.ownBlock=some w.heap.size)→wpList P ops Q rest (act.put o.dst v') w'):wpList P ops Q (o :: rest) act w:=by
 obtain⟨i,hi,hzz⟩:=Option.map_eq_some_iff.1 hinfo
 simp only [Prod.mk.injEq] at hzz
 obtain⟨hz,hsize,hbb⟩:=hzz
 have hle:l.length+m≤(l.length+m)*bytes:=Nat.le_mul_of_pos_right _ hb1
 cases so with
 | none=>
  obtain⟨rfl,rfl⟩:=hsrc rfl
  have hx0:xs=[]:=List.eq_nil_of_length_eq_zero hm
  subst hx0
  refine wpList_append_own_none hgd s x t ho B e i sz ht hi v l.length (l.flatMap f) hs hown hx ?_
  exact h v w (by simpa using hown) ⟨rfl,rfl,rfl,Nat.le_refl _,fun _ _ _=>rfl⟩ (Or.inl rfl)
 | some a=>
  refine wpList_plain hgd fun K hK=>?_
  have hlen:(xs.flatMap f).length=m*sz:=by rw [← hm];exact flat_length hfl xs
  obtain⟨v',w',hr,h2,h3,_,h5⟩:=run_append_own_at (P:=P) w B t o.type e i z sz bytes ht hi hz hsize hbb hzs hsz v l.length (l.flatMap f) hown a m c (xs.flatMap f) hlen (hcell a rfl) (fun u hu=>by
   obtain⟨b,hb,hu⟩:=List.mem_flatMap.1 hu
   exact h1 b hb u hu) (by simp only [maxLen];omega) hby hbase
  unfold Oper.wp execOp
  simp only [ho,resolve,invoke,builtin,Sem.run_bind,Sem.run_pure,Result.andThen_ok,List.map_toArray,List.map_cons,List.map_nil,hs,hx,hr]
  refine hK _ _ (h v' w' ?_ h3 h5)
  unfold OwnL
  rw [List.length_append,List.flatMap_append,hm]
  exact h2
end
section
variable {w0 w w6:World} {g:Nat} {c:Cfg} {v:CfgV} {rows new:List (RC × Value)} {acts:List RA} {rv av:Value}
def putIn (rows new:List (RC × Value)) (k:Nat):List (RC × Value):=rows.take k++new++rows.drop k
end
end Go.Proofs.YtgigkiocdiffjaaGreat
namespace Go.Proofs.YtgigkiocdiffjaaGreat
open Go.RowKit Veil
def okByte (b:Nat):Bool:=decide (32≤b) && decide (b≤126) && !(b == 35)
def okTo (s:ByteArray) (k:Nat):Bool:=((bytes s).take k).all fun b=>okByte b.toNat
def textOkB (s:ByteArray):Bool:=okTo s s.size && decide (1≤s.size) && decide (s.size≤40)
theorem okTo_succ (s:ByteArray) (k:Nat) (h:k<s.size):okTo s (k+1)=(okTo s k && okByte s[k].toNat):=by
 unfold okTo;rw [take_snoc s k h];simp
theorem okTo_bad (s:ByteArray) (k:Nat) (h:k<s.size) (h2:okByte s[k].toNat=false):textOkB s=false:=by
 have:okTo s s.size=false:=by
  unfold okTo
  rw [List.take_of_length_le (by rw [bytes_length];exact Nat.le_refl _),List.all_eq_false]
  refine⟨s[k],?_,by simp [h2]⟩
  rw [← bytes_get s k h]
  exact List.getElem_mem _
 simp [textOkB,this]
def newTo (s:ByteArray) (level k:Nat):List (RC × Value):=(List.range k).map fun j=>(⟨((bytes s).getD j 0).toNat,level,[]⟩,.slice none 0 0)
theorem newTo_succ (s:ByteArray) (level k:Nat) (h:k<s.size):newTo s level (k+1)=newTo s level k++[(⟨s[k].toNat,level,[]⟩,.slice none 0 0)]:=by
 unfold newTo
 rw [List.range_succ,List.map_append]
 have:(bytes s)[k]?.getD 0=s[k]:=by
  rw [← bytes_get s k h,List.getElem?_eq_getElem (by rw [bytes_length];exact h)];rfl
 simp [this]
theorem newTo_length (s:ByteArray) (level k:Nat):(newTo s level k).length=k:=by simp [newTo]
section
variable {α:Type} {e:TypeId} {sz:Nat} {f:α→List Value} {w:World} {B:Nat} {ao:Option Addr} {n cap:Nat} {l:List α}
theorem OwnL.src (h:OwnL e sz f w B (.slice ao n cap) l):(ao=none→n=0∧cap=0)∧∀ a,ao=some a→∃ rb,a=⟨rb,0,none⟩∧rb<w.heap.size∧l.length≤cap∧∀ j u,(l.flatMap f)[j]?=some u→w.cell? ⟨rb,j,none⟩=some u:=by
 rcases h.2 with⟨h1,h2⟩|⟨g,cap',cur,h1,h2,h3,h4,h5,h6,h7⟩
 ·simp only [Value.slice.injEq] at h1
  obtain⟨rfl,rfl,rfl⟩:=h1
  exact⟨(fun _=>⟨rfl,rfl⟩),(fun a h=>by cases h)⟩
 ·simp only [Value.slice.injEq] at h1
  obtain⟨rfl,rfl,rfl⟩:=h1
  refine⟨(fun h=>by cases h),(fun a ha=>?_)⟩
  obtain rfl:=Option.some.inj ha
  refine⟨g,rfl,lt_of_row h3,h4,fun j u hu=>?_⟩
  have:=World.ownsRow.cells h (g:=g) rfl j u hu
  have hadd:(⟨g,0,none⟩:Addr).add j=⟨g,j,none⟩:=by unfold Addr.add;split <;> simp_all
  rw [hadd] at this
  exact this
theorem flat_take {l:List α} {k j:Nat} {u:Value} (h:((l.take k).flatMap f)[j]?=some u):(l.flatMap f)[j]?=some u:=by
 have hl:l.flatMap f=(l.take k).flatMap f++(l.drop k).flatMap f:=by rw [← List.flatMap_append,List.take_append_drop]
 rw [hl,List.getElem?_append_left (List.getElem?_eq_some_iff.1 h).1]
 exact h
theorem flat_drop (hf:∀ a,(f a).length=sz) {l:List α} {k j:Nat} {u:Value} (hk:k≤l.length) (h:((l.drop k).flatMap f)[j]?=some u):(l.flatMap f)[k*sz+j]?=some u:=by
 have hl:l.flatMap f=(l.take k).flatMap f++(l.drop k).flatMap f:=by rw [← List.flatMap_append,List.take_append_drop]
 have ht:((l.take k).flatMap f).length=k*sz:=by rw [flat_length hf,List.length_take,Nat.min_eq_left hk]
 rw [hl,List.getElem?_append_right (by omega),ht,Nat.add_sub_cancel_left]
 exact h
end
end Go.Proofs.YtgigkiocdiffjaaGreat
namespace Go.Proofs.YtgigkiocdiffjaaGreat
open Go.RowKit Veil
def ownC (row:List RC) (l:Nat):Nat:=(row.filter fun x=>x.origin == l).length
structure RowOk (c:Cfg) (row:List RC) (M:Nat):Prop where
 cells:∀ x,x ∈ row→RCOk c x∧x.marks.length≤M
 quota:∀ l,ownC row l≤200
theorem length_le_own:∀ (n:Nat) (row:List RC),(∀ x,x ∈ row→x.origin<n)→(∀ l,ownC row l≤200)→row.length≤n*200
 | 0,row,h,_=>by
  cases row with
  | nil=>simp
  | cons x r=>exact absurd (h x (List.mem_cons_self ..)) (Nat.not_lt_zero _)
 | n+1,row,h,hq=>by
  have ih:=length_le_own n (row.filter fun x=>!(x.origin == n)) (fun x hx=>by
   obtain⟨h1,h2⟩:=List.mem_filter.1 hx
   have:=h x h1
   have:¬ x.origin=n:=by simpa using h2
   omega) (fun l=>by
   have h1:=hq l
   unfold ownC at *
   rw [List.filter_filter]
   refine Nat.le_trans (List.Sublist.length_le ?_) h1
   have:(row.filter fun a=>(a.origin == l) && !(a.origin == n))=(row.filter fun a=>a.origin == l).filter fun a=>!(a.origin == n):=by rw [List.filter_filter];congr 1;funext a;exact Bool.and_comm _ _
   rw [this]
   exact List.filter_sublist)
  have hp:row.length=(row.filter fun x=>x.origin == n).length+(row.filter fun x=>!(x.origin == n)).length:=by
   clear ih h hq
   induction row with
   | nil=>rfl
   | cons x r ihr=>cases hx:(x.origin == n) <;> simp [hx,ihr] <;> omega
  have:=hq n
  unfold ownC at this
  rw [Nat.add_mul]
  omega
theorem RowOk.length {c:Cfg} {row:List RC} {M:Nat} (h:RowOk c row M) (hn:c.n≤6):row.length≤1200:=by
 have:=length_le_own c.n row (fun x hx=>(h.cells x hx).1.origin) h.quota
 have:c.n*200≤6*200:=Nat.mul_le_mul_right _ hn
 omega
theorem putIn_map (rows new:List (RC × Value)) (k:Nat):(putIn rows new k).map (·.1)=(rows.map (·.1)).take k++new.map (·.1)++(rows.map (·.1)).drop k:=by
 unfold putIn;simp [List.map_take,List.map_drop]
theorem putIn_ok {c:Cfg} {rows:List (RC × Value)} {M level k b:Nat} {s:ByteArray} (h:RowOk c (rows.map (·.1)) M) (hl:level<c.n) (hq:ownC (rows.map (·.1)) level+k≤200):RowOk c ((putIn rows (newTo s level k) b).map (·.1)) M:=by
 have hnew:∀ x,x ∈ (newTo s level k).map (·.1)→x.b<256∧x.origin=level∧x.marks=[]:=fun x hx=>by
  unfold newTo at hx
  simp only [List.map_map,List.mem_map] at hx
  obtain⟨j,_,rfl⟩:=hx
  exact⟨UInt8.toNat_lt _,rfl,rfl⟩
 rw [putIn_map]
 generalize hR:rows.map (·.1)=row at *
 refine⟨fun x hx=>?_,fun l=>?_⟩
 ·simp only [List.mem_append] at hx
  rcases hx with (hx|hx)|hx
  ·exact h.cells x (List.mem_of_mem_take hx)
  ·obtain⟨h1,h2,h3⟩:=hnew x hx
   exact⟨⟨h1,by rw [h2];exact hl,fun m hm=>by rw [h3] at hm;cases hm⟩,by rw [h3];simp⟩
  ·exact h.cells x (List.mem_of_mem_drop hx)
 ·have hsum:ownC (row.take b++(newTo s level k).map (·.1)++row.drop b) l=ownC row l+ownC ((newTo s level k).map (·.1)) l:=by
   have:ownC row l=ownC (row.take b) l+ownC (row.drop b) l:=by
    unfold ownC
    rw [← List.length_append,← List.filter_append,List.take_append_drop]
   rw [this]
   unfold ownC
   simp only [List.filter_append,List.length_append]
   omega
  rw [hsum]
  by_cases hll:l=level
  ·subst hll
   have h1:ownC ((newTo s l k).map (·.1)) l≤k:=by
    unfold ownC
    refine Nat.le_trans (List.length_filter_le _ _) ?_
    rw [List.length_map,newTo_length]
    exact Nat.le_refl _
   omega
  ·have h1:ownC ((newTo s level k).map (·.1)) l=0:=by
    unfold ownC
    rw [List.length_eq_zero_iff,List.filter_eq_nil_iff]
    intro x hx
    have:=(hnew x hx).2.1
    simp;omega
   have:=h.quota l
   omega
end Go.Proofs.YtgigkiocdiffjaaGreat
namespace Go.Proofs.YtgigkiocdiffjaaGreat
open Go.RowKit Veil
structure Se where
 num:Nat
 b:Nat
 hid:Bool
 free:Bool
def seC (c:Cfg) (row:List RC) (d r:Nat):Se:=⟨r,byF row r,hidR c row d r,(seenF c (cellAt row r) d).2⟩
def firstTo (c:Cfg) (row:List RC) (d k:Nat):List Se:=(atTo c row d k).map (seC c row d)
def seAt (S:List Se) (j:Nat):Se:=S.getD j ⟨0,0,false,false⟩
def seeB (S:List Se) (j:Nat):Nat:=bif (seAt S j).hid then 35 else (seAt S j).b
def seeT (S:List Se):ByteArray:=textF (seeB S) 0 S.length
def struckL (s:ByteArray) (ps:List ByteArray):List Sp:=ps.flatMap fun p=>(spansTo s s.size).filter (hitB s p)
def againstL (c:Cfg) (d:Nat):List ByteArray:=(c.rules.filter fun r=>!c.le r.2 d).map (·.1)
def inSp (x:Sp) (j:Nat):Bool:=decide (x.lo≤j) && decide (j<x.hi)
def maskedF (S:List Se) (T:Nat→Nat) (L:List Sp) (j:Nat):Nat:=bif L.any (fun x=>inSp x j) && !(seAt S j).free then 35 else T j
def lastB (l:List Pl):Bool:=match l.getLast? with
 | some p=>p.b == 35
 | none=>false
def joinTo (A M:Nat→Nat):Nat→List Pl
 | 0=>[]
 | k+1=>bif lastB (joinTo A M k) && (M k == 35) then lastTo (joinTo A M k) (A k) else joinTo A M k++[⟨M k,A k,A k⟩]
def placesP (S:List Se) (ps:List ByteArray):List Pl:=joinTo (fun j=>(seAt S j).num) (maskedF S (seeB S) (struckL (seeT S) ps)) S.length
theorem lastB_snoc (l:List Pl) (p:Pl):lastB (l++[p])=(p.b == 35):=by simp [lastB]
theorem lastB_lastTo (l:List Pl) (x:Nat):lastB (lastTo l x)=lastB l:=by
 rcases List.eq_nil_or_concat l with rfl|⟨l',p,rfl⟩
 ·rfl
 ·rw [List.concat_eq_append,lastB_snoc]
  have:lastTo (l'++[p]) x=l'++[⟨p.b,p.first,x⟩]:=by
   rw [lastTo_set (n:=l'.length) (p:=p) (by simp) (by simp)]
   simp
  rw [this,lastB_snoc]
theorem join_pl (A B M:Nat→Nat) (h:Nat→Bool) (m:Nat) (hM:∀ j,j<m→M j=bif h j then 35 else B j) (hB:∀ j,j<m→B j≠35):∀ k,k≤m→joinTo A M k=plTo A B h k∧lastB (plTo A B h k)=(decide (0<k) && h (k-1)):=by
 intro k
 induction k with
 | zero=>intro _;exact⟨rfl,rfl⟩
 | succ k ih=>
  intro hk
  obtain⟨h1,h2⟩:=ih (by omega)
  have hMk:=hM k (by omega)
  have hBk:=hB k (by omega)
  rw [joinTo,plTo,h1,h2,hMk]
  have hBb:(B k == 35)=false:=by simpa using hBk
  cases hh:h k
  ·simp only [cond_false,hBb,Bool.and_false,true_and]
   rw [lastB_snoc,hBb]
   simp [hh]
  ·simp only [cond_true,beq_self_eq_true,Bool.and_true]
   cases h3:(decide (0<k) && h (k-1))
   ·simp only [cond_false,true_and]
    rw [lastB_snoc]
    simp [hh]
   ·simp only [cond_true,true_and]
    rw [lastB_lastTo,h2,h3]
    simp [hh]
theorem setR_getD (L:List Bool) (F:Nat→Bool) (lo n j:Nat) (hj:j<L.length):(setR L F lo n).getD j false=bif decide (lo≤j) && decide (j<lo+n) then F j else L.getD j false:=by
 induction n with
 | zero=>
  have:¬ (lo≤j∧j<lo+0):=by omega
  have:(decide (lo≤j) && decide (j<lo+0))=false:=by
   rw [Bool.and_eq_false_iff,decide_eq_false_iff_not,decide_eq_false_iff_not];omega
  rw [this];rfl
 | succ n ih=>
  rw [setR,List.getD,List.getElem?_set]
  by_cases h:lo+n=j
  ·subst h
   have:(decide (lo≤lo+n) && decide (lo+n<lo+(n+1)))=true:=by simp
   rw [this,setR_length]
   simp [hj]
  ·rw [if_neg h]
   have h2:(decide (lo≤j) && decide (j<lo+(n+1)))=(decide (lo≤j) && decide (j<lo+n)):=by
    congr 1
    rw [decide_eq_decide]
    omega
   rw [h2,← ih];rfl
def inPc (pc:Nat→Piece) (st:Nat→Bool) (j i:Nat):Bool:=st i && (decide ((pc i).lo≤j) && decide (j<(pc i).hi))
theorem moreTo_getD (pc:Nat→Piece) (st fr:Nat→Bool) (m j:Nat) (hj:j<m):∀ k,(moreTo pc st fr m k).getD j false=((List.range k).any (inPc pc st j) && !fr j):=by
 intro k
 induction k with
 | zero=>simp [moreTo,List.getD,hj]
 | succ k ih=>
  rw [moreTo,List.range_succ,List.any_append]
  cases hs:st k
  ·simp only [cond_false,ih]
   simp [inPc,hs]
  ·simp only [cond_true]
   rw [setR_getD _ _ _ _ _ (by rw [moreTo_length];exact hj),ih]
   have e:(decide ((pc k).lo≤j) && decide (j<(pc k).lo+((pc k).hi-(pc k).lo)))=inPc pc st j k:=by
    simp only [inPc,hs,Bool.true_and]
    by_cases h1:(pc k).lo≤j
    ·simp only [h1,decide_true,Bool.true_and,decide_eq_decide];omega
    ·simp [h1]
   rw [e]
   simp only [List.any_cons,List.any_nil,Bool.or_false]
   cases inPc pc st j k
   ·simp
   ·simp
theorem backF_spec (p:Nat→Bool) (i:Nat):(∀ j,backF p i≤j→j<i→p j=true)∧(backF p i=0∨p (backF p i-1)=false):=by
 induction i with
 | zero=>exact⟨fun j _ h=>absurd h (Nat.not_lt_zero _),Or.inl rfl⟩
 | succ f ih=>
  cases h:p f
  ·rw [backF_no h]
   exact⟨fun j h1 h2=>by omega,Or.inr h⟩
  ·rw [backF_yes h]
   refine⟨fun j h1 h2=>?_,ih.2⟩
   by_cases hj:j=f
   ·rw [hj];exact h
   ·exact ih.1 j h1 (by omega)
theorem fwdF_spec (p:Nat→Bool) (m:Nat):∀ f t,∀ j,t≤j→j<fwdF p m f t→p j=true:=by
 intro f
 induction f with
 | zero=>intro t j h1 h2;simp [fwdF] at h2;omega
 | succ f ih=>
  intro t j h1 h2
  rw [fwdF] at h2
  cases hc:(decide (t<m) && p t)
  ·rw [hc] at h2;simp at h2;omega
  ·rw [hc] at h2
   simp only [cond_true] at h2
   by_cases hj:j=t
   ·subst hj;simp at hc;exact hc.2
   ·exact ih (t+1) j (by omega) h2
theorem fwdF_congr {p q:Nat→Bool} {m:Nat} (h:∀ j,j<m→p j=q j):∀ f t,fwdF p m f t=fwdF q m f t:=by
 intro f
 induction f with
 | zero=>intro t;rfl
 | succ f ih=>
  intro t
  rw [fwdF,fwdF]
  by_cases ht:t<m
  ·rw [h t ht,ih]
  ·simp [ht]
theorem fwdF_gt {p:Nat→Bool} {m t:Nat} (ht:t<m) (h:p t=true):t<fwdF p m (m-t) t:=by
 rw [fwdF_yes ht h]
 have:=(backF_fwd_le p m (m-(t+1)) (t+1) (by omega)).2
 omega
theorem bt_textF (f:Nat→Nat) (m j:Nat) (hj:j<m) (hf:f j<256):bt (textF f 0 m) j=f j:=by
 simp [bt,textF,bytes,List.getD,hj]
 omega
theorem bytes_extract_textF (f g:Nat→Nat) (m lo hi:Nat) (hh:hi≤m) (hfg:∀ j,lo≤j→j<hi→f j=g j):bytes ((textF f 0 m).extract lo hi)=bytes (textF g lo hi):=by
 apply List.ext_getElem?
 intro i
 simp only [bytes,ByteArray.data_extract,textF]
 simp only [Array.toList_extract,List.extract_eq_take_drop,List.getElem?_take,List.getElem?_drop,List.getElem?_map,Nat.sub_zero]
 by_cases h:i<hi-lo
 ·simp only [h,if_true]
  rw [List.getElem?_range' (by omega),List.getElem?_range' h]
  simp only [Option.map_some,Nat.one_mul,Nat.zero_add]
  rw [hfg (lo+i) (by omega) (by omega)]
 ·simp only [h,if_false]
  rw [List.getElem?_eq_none (by simp;omega)]
  rfl
theorem emptyB_textF (f:Nat→Nat) (a b:Nat) (h:a<b):emptyB (textF f a b)=false:=by
 unfold emptyB
 rw [empty_list]
 rw [Go.ByteArray.toList_eq]
 obtain⟨n,hn⟩:∃ n,b-a=n+1:=⟨b-a-1,by omega⟩
 simp [textF,hn]
theorem kind_see (b:Nat) (h:Bool) (k:Nat) (hk:k≠0):(kindN (bif h then 35 else b) == k)=(!h && (kindN b == k)):=by
 cases h
 ·simp
 ·have:kindN 35=0:=by decide
  simp [this];omega
theorem piece_span (B:Nat→Nat) (H:Nat→Bool) (T:Nat→Nat) (m:Nat) (hT:∀ j,j<m→T j=bif H j then 35 else B j) (hb:∀ j,j<m→B j<256) (i:Nat) (hi:i<m) (hn:H i=false) (hk:kindN (B i)≠0) :
  let p:=pieceF (fun j=>kindN (B j)) B H m i
  p.lo≤i∧i<p.hi∧p.hi≤m∧p.lo<m∧((spanF (textF T 0 m) p.lo).kind=1∨(spanF (textF T 0 m) p.lo).kind=2)∧(spanF (textF T 0 m) p.lo).lo=p.lo∧(spanF (textF T 0 m) p.lo).hi=p.hi∧p.text=textF B p.lo p.hi∧∀ j,p.lo≤j→j<p.hi→H j=false:=by
 have hT256:∀ j,j<m→T j<256:=fun j hj=>by rw [hT j hj];cases H j <;> simp;exact hb j hj
 have hbt:∀ j,j<m→bt (textF T 0 m) j=T j:=fun j hj=>bt_textF T m j hj (hT256 j hj)
 have hkb:∀ j,j<m→(isAt (fun j=>kindN (B j)) H (kindN (B i)) j)=(kindN (T j) == kindN (B i)):=fun j hj=>by
  rw [hT j hj,kind_see _ _ _ hk];rfl
 have hp:pieceF (fun j=>kindN (B j)) B H m i=⟨backF (isAt (fun j=>kindN (B j)) H (kindN (B i))) i,fwdF (isAt (fun j=>kindN (B j)) H (kindN (B i))) m (m-backF (isAt (fun j=>kindN (B j)) H (kindN (B i))) i) (backF (isAt (fun j=>kindN (B j)) H (kindN (B i))) i),textF B (backF (isAt (fun j=>kindN (B j)) H (kindN (B i))) i) (fwdF (isAt (fun j=>kindN (B j)) H (kindN (B i))) m (m-backF (isAt (fun j=>kindN (B j)) H (kindN (B i))) i) (backF (isAt (fun j=>kindN (B j)) H (kindN (B i))) i))⟩:=by
  unfold pieceF
  have:(H i || (kindN (B i) == 0))=false:=by simp [hn,hk]
  rw [this];rfl
 generalize hq:isAt (fun j=>kindN (B j)) H (kindN (B i))=q at *
 have hqi:q i=true:=by rw [hkb i hi,hT i hi,hn];simp
 obtain⟨b1,b2⟩:=backF_spec q i
 have b3:=backF_le q i
 generalize backF q i=lo at *
 have hlo:lo<m:=by omega
 have f1:=fwdF_spec q m (m-lo) lo
 have hqlo:q lo=true:=by
  by_cases h:lo=i
  ·rw [h];exact hqi
  ·exact b1 lo (Nat.le_refl _) (by omega)
 have f2:=(backF_fwd_le q m (m-lo) lo (by omega)).1
 have fgt:i<fwdF q m (m-lo) lo:=by
  have key:∀ n t,t≤i→i-t≤n→(∀ j,t≤j→j≤i→q j=true)→i<fwdF q m (m-t) t:=by
   intro n
   induction n with
   | zero=>
    intro t h1 h2 h3;obtain rfl:t=i:=by omega
    exact fwdF_gt hi hqi
   | succ n ih=>
    intro t h1 h2 h3
    by_cases ht:t=i
    ·subst ht;exact fwdF_gt hi hqi
    ·rw [fwdF_yes (by omega) (h3 t (Nat.le_refl _) (by omega))]
     exact ih (t+1) (by omega) (by omega) (fun j h4 h5=>h3 j (by omega) h5)
  exact key (i-lo) lo b3 (Nat.le_refl _) (fun j h1 h2=>by
   by_cases h:j=i
   ·rw [h];exact hqi
   ·exact b1 j h1 (by omega))
 have hklo:kindN (T lo)=kindN (B i):=by have:=hqlo;rw [hkb lo hlo] at this;simpa using this
 have hsz:(textF T 0 m).size=m:=by rw [textF_size];omega
 have hsp:spanF (textF T 0 m) lo=bif kindN (B i) == 97 then ⟨1,lo,fwdF q m (m-lo) lo⟩ else ⟨2,lo,fwdF q m (m-lo) lo⟩:=by
  unfold spanF
  rw [hbt lo hlo,hklo,hsz]
  have h32:(T lo == 32)=false:=by
   have:T lo≠32:=fun e=>hk (by rw [← hklo,e];decide)
   simpa using this
  have h35:(T lo == 35)=false:=by
   have:T lo≠35:=fun e=>hk (by rw [← hklo,e];decide)
   simpa using this
  have hk0:(kindN (B i) == 0)=false:=by simpa using hk
  have hbk:(decide (0<lo) && (kindN (bt (textF T 0 m) (lo-1)) == kindN (B i)))=false:=by
   rcases b2 with h|h
   ·simp [h]
   ·rw [hbt (lo-1) (by omega),← hkb (lo-1) (by omega),h];simp
  rw [h32,h35,hk0,hbk]
  simp only [cond_false]
  have hc:fwdF (fun j=>kindN (bt (textF T 0 m) j) == kindN (B i)) m (m-lo) lo=fwdF q m (m-lo) lo:=fwdF_congr (fun j hj=>by rw [hbt j hj,hkb j hj]) _ _
  rw [hc]
 simp only [hp]
 refine⟨b3,fgt,f2,hlo,?_,?_,?_,trivial,fun j h1 h2=>?_⟩
 ·rw [hsp];cases kindN (B i) == 97
  ·exact Or.inr rfl
  ·exact Or.inl rfl
 ·rw [hsp];cases kindN (B i) == 97 <;> rfl
 ·rw [hsp];cases kindN (B i) == 97 <;> rfl
 ·have:=f1 j h1 h2
  rw [← hq] at this
  simp only [isAt,Bool.and_eq_true,Bool.not_eq_true'] at this
  exact this.1
theorem span_start {s:ByteArray} {i:Nat} (h:(spanF s i).kind=1∨(spanF s i).kind=2):(spanF s i).lo=i∧kindN (bt s i)≠0∧(i=0∨(kindN (bt s (i-1)) == kindN (bt s i))=false):=by
 unfold spanF at *
 cases h1:bt s i == 32
 ·rw [h1] at h
  cases h2:bt s i == 35
  ·rw [h2] at h
   cases h3:kindN (bt s i) == 0
   ·rw [h3] at h
    have hk:kindN (bt s i)≠0:=by simpa using h3
    cases h4:(decide (0<i) && (kindN (bt s (i-1)) == kindN (bt s i)))
    ·have h5:i=0∨(kindN (bt s (i-1)) == kindN (bt s i))=false:=by
      by_cases hi:i=0
      ·exact Or.inl hi
      ·right
       cases h6:(kindN (bt s (i-1)) == kindN (bt s i))
       ·rfl
       ·have hp:decide (0<i)=true:=by simp;omega
        rw [hp,h6] at h4;simp at h4
     refine⟨?_,hk,h5⟩
     cases kindN (bt s i) == 97 <;> rfl
    ·rw [h4] at h;simp at h
   ·rw [h3] at h;simp at h
  ·rw [h2] at h;simp at h
 ·rw [h1] at h;simp at h
theorem mem_spansTo {s:ByteArray} {m:Nat} {x:Sp}:x ∈ spansTo s m ↔ ∃ i,i<m∧x=spanF s i∧x.kind≠0:=by
 unfold spansTo
 simp only [List.mem_filter,List.mem_map,List.mem_range]
 constructor
 ·rintro ⟨⟨i,hi,rfl⟩,h⟩
  exact⟨i,hi,rfl,by simpa using h⟩
 ·rintro ⟨i,hi,rfl,h⟩
  exact⟨⟨i,hi,rfl⟩,by simpa using h⟩
theorem any_same (c:Cfg) (d:Nat) (B:Nat→Nat) (H:Nat→Bool) (T:Nat→Nat) (m j:Nat) (hT:∀ j,j<m→T j=bif H j then 35 else B j) (hb:∀ j,j<m→B j<256) :
  (List.range m).any (inPc (pieceF (fun j=>kindN (B j)) B H m) (fun k=>!emptyB (pieceF (fun j=>kindN (B j)) B H m k).text && struckB c (pieceF (fun j=>kindN (B j)) B H m k).text d) j)=(struckL (textF T 0 m) (againstL c d)).any (fun x=>inSp x j):=by
 have hsz:(textF T 0 m).size=m:=by rw [textF_size];omega
 have hT256:∀ j,j<m→T j<256:=fun j hj=>by rw [hT j hj];cases H j <;> simp;exact hb j hj
 have hbt:∀ j,j<m→bt (textF T 0 m) j=T j:=fun j hj=>bt_textF T m j hj (hT256 j hj)
 have hex:∀ lo hi,hi≤m→(∀ j,lo≤j→j<hi→H j=false)→bytes ((textF T 0 m).extract lo hi)=bytes (textF B lo hi):=fun lo hi h1 h2=>bytes_extract_textF T B m lo hi h1 (fun j h3 h4=>by rw [hT j (by omega),h2 j h3 h4];rfl)
 rw [Bool.eq_iff_iff,List.any_eq_true,List.any_eq_true]
 constructor
 ·rintro ⟨i,hi,h⟩
  have hi:i<m:=by simpa using hi
  simp only [inPc,Bool.and_eq_true,Bool.not_eq_true',decide_eq_true_eq] at h
  obtain⟨⟨h1,h2⟩,h3,h4⟩:=h
  have hne:(H i || (kindN (B i) == 0))=false:=by
   cases hc:(H i || (kindN (B i) == 0))
   ·rfl
   ·have:(pieceF (fun j=>kindN (B j)) B H m i).text=ByteArray.empty:=by unfold pieceF;rw [hc];rfl
    rw [this] at h1
    have:emptyB ByteArray.empty=true:=by
     unfold emptyB
     rw [Go.ByteArray.toList_eq,empty_list];rfl
    rw [this] at h1;cases h1
  have hH:H i=false:=by cases hh:H i <;> simp_all
  have hK:kindN (B i)≠0:=by rw [hH] at hne;simpa using hne
  obtain⟨p1,p2,p3,p4,p5,p6,p7,p8,p9⟩:=piece_span B H T m hT hb i hi hH hK
  unfold struckB at h2
  rw [List.any_eq_true] at h2
  obtain⟨r,hr,h2⟩:=h2
  unfold strikes at h2
  simp only [Bool.and_eq_true,Bool.not_eq_true'] at h2
  refine⟨spanF (textF T 0 m) (pieceF (fun j=>kindN (B j)) B H m i).lo,?_,?_⟩
  ·unfold struckL againstL
   rw [List.mem_flatMap]
   refine⟨r.1,List.mem_map.2 ⟨r,List.mem_filter.2 ⟨hr,by rw [h2.2];rfl⟩,rfl⟩,List.mem_filter.2 ⟨?_,?_⟩⟩
   ·rw [hsz,mem_spansTo]
    exact⟨_,p4,rfl,by rcases p5 with h|h <;> omega⟩
   ·unfold hitB
    rw [p6,p7,hex _ _ p3 p9,← p8,h2.1]
    rcases p5 with h|h <;> simp [h]
  ·unfold inSp
   rw [p6,p7]
   simp [h3,h4]
 ·rintro ⟨x,hx,h⟩
  unfold struckL againstL at hx
  rw [List.mem_flatMap] at hx
  obtain⟨p,hp,hx⟩:=hx
  obtain⟨r,hr,rfl⟩:=List.mem_map.1 hp
  obtain⟨hr1,hr2⟩:=List.mem_filter.1 hr
  obtain⟨hx1,hx2⟩:=List.mem_filter.1 hx
  rw [hsz,mem_spansTo] at hx1
  obtain⟨i,hi,rfl,hk0⟩:=hx1
  unfold hitB at hx2
  simp only [Bool.and_eq_true,Bool.or_eq_true,beq_iff_eq] at hx2
  obtain⟨s1,s2,s3⟩:=span_start hx2.1
  rw [hbt i hi] at s2 s3
  have hH:H i=false:=by
   cases hh:H i
   ·rfl
   ·exact absurd (show kindN (T i)=0 by rw [hT i hi,hh];exact (by decide:kindN 35=0)) s2
  have hTi:T i=B i:=by rw [hT i hi,hH];rfl
  rw [hTi] at s2 s3
  obtain⟨p1,p2,p3,p4,p5,p6,p7,p8,p9⟩:=piece_span B H T m hT hb i hi hH s2
  have hlo:(pieceF (fun j=>kindN (B j)) B H m i).lo=i:=by
   unfold pieceF
   have:(H i || (kindN (B i) == 0))=false:=by simp [hH,s2]
   rw [this]
   simp only [cond_false]
   rcases s3 with rfl|s3
   ·rfl
   ·obtain⟨f,rfl⟩:∃ f,i=f+1:=⟨i-1,by
     rcases Nat.eq_zero_or_pos i with rfl|h0
     ·rw [hbt 0 hi,hTi] at s3;simp at s3
     ·omega⟩
    refine backF_no ?_
    rw [show f+1-1=f from rfl,hbt f (by omega),hT f (by omega),kind_see _ _ _ s2] at s3
    exact s3
  rw [hlo] at p6 p7 p8 p9
  refine⟨i,by simpa using hi,?_⟩
  unfold inSp at h
  rw [p6,p7] at h
  simp only [inPc,hlo,Bool.and_eq_true,Bool.not_eq_true']
  refine⟨⟨by rw [p8];exact emptyB_textF _ _ _ (by omega),?_⟩,by simpa using h⟩
  unfold struckB
  rw [List.any_eq_true]
  refine⟨r,hr1,?_⟩
  unfold strikes
  have:=hx2.2
  rw [p6,p7,hex _ _ p3 p9] at this
  rw [p8,this]
  simpa using hr2
theorem joinTo_congr {A A' M M':Nat→Nat} {m:Nat} (hA:∀ j,j<m→A j=A' j) (hM:∀ j,j<m→M j=M' j):∀ k,k≤m→joinTo A M k=joinTo A' M' k:=by
 intro k
 induction k with
 | zero=>intro _;rfl
 | succ k ih=>intro hk;rw [joinTo,joinTo,ih (by omega),hA k (by omega),hM k (by omega)]
theorem seAt_first (c:Cfg) (row:List RC) (d k j:Nat) (hj:j<(atTo c row d k).length):seAt (firstTo c row d k) j=seC c row d (numF (atTo c row d k) j):=by
 simp [seAt,firstTo,List.getD,numF,List.getElem?_eq_getElem hj]
theorem places_same (c:Cfg) (row:List RC) (d:Nat) (hb:∀ r,byF row r<256) (hm:∀ r,r ∈ atTo c row d row.length→byF row r≠35):placesP (firstTo c row d row.length) (againstL c d)=placesR c row d:=by
 unfold placesP placesR placesF
 have hl:(firstTo c row d row.length).length=(atTo c row d row.length).length:=by simp [firstTo]
 have hH:∀ j,j<(atTo c row d row.length).length→hidF (hidTo c row d row.length) j=hidR c row d (numF (atTo c row d row.length) j):=fun j hj=>by
  simp [hidF,hidTo,numF,List.getD,List.getElem?_eq_getElem hj]
 have hT:∀ j,j<(atTo c row d row.length).length→seeB (firstTo c row d row.length) j=bif hidF (hidTo c row d row.length) j then 35 else byF row (numF (atTo c row d row.length) j):=fun j hj=>by
  unfold seeB
  rw [seAt_first c row d _ j hj,hH j hj];rfl
 have hne:∀ j,j<(atTo c row d row.length).length→byF row (numF (atTo c row d row.length) j)≠35:=fun j hj=>hm _ (by
  have:numF (atTo c row d row.length) j=(atTo c row d row.length)[j]:=by simp [numF,List.getD,List.getElem?_eq_getElem hj]
  rw [this];exact List.getElem_mem hj)
 have hfr:∀ j,j<(atTo c row d row.length).length→(seAt (firstTo c row d row.length) j).free=frF c d row (atTo c row d row.length) j:=fun j hj=>by
  rw [seAt_first c row d _ j hj];rfl
 have hnum:∀ j,j<(atTo c row d row.length).length→(seAt (firstTo c row d row.length) j).num=numF (atTo c row d row.length) j:=fun j hj=>by
  rw [seAt_first c row d _ j hj];rfl
 unfold seeT
 rw [hl]
 generalize firstTo c row d row.length=S at *
 generalize hidTo c row d row.length=HH at *
 generalize atTo c row d row.length=A at *
 have key:=fun j=>any_same c d (fun j=>byF row (numF A j)) (hidF HH) (seeB S) A.length j hT (fun j _=>hb _)
 refine (joinTo_congr (A':=numF A) hnum (fun j _=>rfl) _ (Nat.le_refl _)).trans ?_
 refine (join_pl (numF A) (fun j=>byF row (numF A j)) _ _ A.length (fun j hj=>?_) hne _ (Nat.le_refl _)).1
 unfold maskedF
 rw [hfr j hj,hT j hj,moreTo_getD _ _ _ _ _ hj]
 have key':=key j
 unfold stF pcF
 rw [key']
 cases (struckL (textF (seeB S) 0 A.length) (againstL c d)).any (fun x=>inSp x j) <;> cases frF c d row A j <;> cases hidF HH j <;> rfl
theorem plAt_lt {P:List Pl} {j:Nat} (h:j<P.length):plAt P j=P[j]:=by simp [plAt,List.getD,h]
theorem plAt_snoc_lt {P:List Pl} {p:Pl} {j:Nat} (h:j<P.length):plAt (P++[p]) j=plAt P j:=by
 simp [plAt,List.getD,List.getElem?_append_left h]
theorem plAt_snoc_eq {P:List Pl} {p:Pl} {j:Nat} (h:j=P.length):plAt (P++[p]) j=p:=by
 subst h;simp [plAt,List.getD]
theorem plAt_lastTo {P:List Pl} {x j:Nat} (h:j<P.length):(plAt (lastTo P x) j).first=(plAt P j).first∧(plAt (lastTo P x) j).last=if j=P.length-1 then x else (plAt P j).last:=by
 have hl:(lastTo P x).length=P.length:=by simp [lastTo]
 rw [plAt_lt (by rw [hl];exact h),plAt_lt h]
 unfold lastTo
 rw [List.getElem_modify]
 by_cases he:P.length-1=j
 ·simp [he]
 ·rw [if_neg he,if_neg (fun h=>he h.symm)];exact⟨rfl,rfl⟩
theorem plTo_adj (A B:Nat→Nat) (h:Nat→Bool):∀ k,(∀ j,j+1<(plTo A B h k).length→∃ t,t+1<k∧(plAt (plTo A B h k) j).last=A t∧(plAt (plTo A B h k) (j+1)).first=A (t+1))∧(0<k→(plAt (plTo A B h k) ((plTo A B h k).length-1)).last=A (k-1)):=by
 intro k
 induction k with
 | zero=>exact⟨fun j hj=>by simp [plTo] at hj,fun h=>absurd h (Nat.lt_irrefl _)⟩
 | succ k ih=>
  obtain⟨i1,i2⟩:=ih
  have hlen:=plTo_length A B h k
  have snoc:∀ b:Nat,(∀ j,j+1<(plTo A B h k++[(⟨b,A k,A k⟩:Pl)]).length→∃ t,t+1<k+1∧(plAt (plTo A B h k++[(⟨b,A k,A k⟩:Pl)]) j).last=A t∧(plAt (plTo A B h k++[⟨b,A k,A k⟩]) (j+1)).first=A (t+1))∧(0<k+1→(plAt (plTo A B h k++[⟨b,A k,A k⟩]) ((plTo A B h k++[(⟨b,A k,A k⟩:Pl)]).length-1)).last=A (k+1-1)):=fun b=>by
   refine⟨fun j hj=>?_,fun _=>?_⟩
   ·have hj':j+1<(plTo A B h k).length+1:=by simpa using hj
    by_cases he:j+1=(plTo A B h k).length
    ·have hk:0<k:=by
      rcases Nat.eq_zero_or_pos k with rfl|h0
      ·simp [plTo] at he
      ·exact h0
     refine⟨k-1,by omega,?_,?_⟩
     ·rw [plAt_snoc_lt (by omega)]
      have:=i2 hk
      rw [show (plTo A B h k).length-1=j by omega] at this
      exact this
     ·rw [plAt_snoc_eq he,show k-1+1=k by omega]
    ·obtain⟨t,h1,h2,h3⟩:=i1 j (by omega)
     exact⟨t,by omega,by rw [plAt_snoc_lt (by omega)];exact h2,by rw [plAt_snoc_lt (by omega)];exact h3⟩
   ·rw [plAt_snoc_eq (by simp)];rfl
  rw [plTo]
  cases hk:h k
  ·exact snoc (B k)
  ·cases hk2:(decide (0<k) && h (k-1))
   ·exact snoc 35
   ·have h0:0<k:=by simp at hk2;exact hk2.1
    have hl:(lastTo (plTo A B h k) (A k)).length=(plTo A B h k).length:=by simp [lastTo]
    simp only [cond_true]
    have hpos:=hlen.2 h0
    refine⟨fun j hj=>?_,fun _=>?_⟩
    ·rw [hl] at hj
     obtain⟨t,h1,h2,h3⟩:=i1 j hj
     refine⟨t,by omega,?_,?_⟩
     ·rw [(plAt_lastTo (by omega)).2,if_neg (by omega)];exact h2
     ·rw [(plAt_lastTo hj).1];exact h3
    ·rw [hl,(plAt_lastTo (by omega)).2,if_pos rfl];rfl
theorem atTo_mem {c:Cfg} {row:List RC} {d n r:Nat}:r ∈ atTo c row d n ↔ r<n∧thR c row d r=true:=by
 unfold atTo thR
 rw [List.mem_filter,List.mem_range]
theorem numF_get {A:List Nat} {j:Nat} (h:j<A.length):numF A j=A[j]:=by simp [numF,List.getD,List.getElem?_eq_getElem h]
theorem gap_none {c:Cfg} {row:List RC} {d n t i:Nat} (hmono:∀ i j,i<j→j<(atTo c row d n).length→numF (atTo c row d n) i<numF (atTo c row d n) j) (ht:t+1<(atTo c row d n).length) (h1:numF (atTo c row d n) t<i) (h2:i<numF (atTo c row d n) (t+1)):thR c row d i=false:=by
 cases h:thR c row d i
 ·rfl
 ·have hlt:numF (atTo c row d n) (t+1)<n:=by rw [numF_get ht];exact (atTo_mem.1 (List.getElem_mem ht)).1
  have hm:i ∈ atTo c row d n:=atTo_mem.2 ⟨by omega,h⟩
  obtain⟨s,hs,he⟩:=List.getElem_of_mem hm
  rw [← numF_get hs] at he
  by_cases hst:s≤t
  ·have:numF (atTo c row d n) s≤numF (atTo c row d n) t:=by
    rcases Nat.lt_or_eq_of_le hst with h3|rfl
    ·exact Nat.le_of_lt (hmono s t h3 (by omega))
    ·exact Nat.le_refl _
   omega
  ·have:numF (atTo c row d n) (t+1)≤numF (atTo c row d n) s:=by
    rcases Nat.lt_or_eq_of_le (show t+1≤s by omega) with h3|h3
    ·exact Nat.le_of_lt (hmono (t+1) s h3 hs)
    ·rw [h3];exact Nat.le_refl _
   omega
theorem cellsIn_split {c:Cfg} {row:List RC} {d a b e:Nat} (h1:a≤b) (h2:b≤e):cellsIn c row d a e=cellsIn c row d a b++cellsIn c row d b e:=by
 unfold cellsIn
 rw [← List.filter_append]
 congr 1
 have:e-a=(b-a)+(e-b):=by omega
 rw [this,← List.range'_append_1,show a+(b-a)=b by omega]
theorem cellsIn_none {c:Cfg} {row:List RC} {d a b:Nat} (h:∀ i,a≤i→i<b→thR c row d i=false):cellsIn c row d a b=[]:=by
 unfold cellsIn
 rw [List.filter_eq_nil_iff]
 intro i hi
 rw [List.mem_range'_1] at hi
 rw [h i hi.1 (by omega)];simp
structure PlacesOk (c:Cfg) (row:List RC) (d:Nat) (P:List Pl):Prop where
 le:∀ j,j<P.length→(plAt P j).first≤(plAt P j).last∧(plAt P j).last<row.length
 adj:∀ j,j+1<P.length→(plAt P j).last<(plAt P (j+1)).first∧∀ i,(plAt P j).last<i→i<(plAt P (j+1)).first→thR c row d i=false
theorem cells_one {c:Cfg} {row:List RC} {d:Nat} {P:List Pl} (h:PlacesOk c row d P) {a:Nat}:∀ b,a<b→b≤P.length→cellsTo c row d P a b=cellsIn c row d (plAt P a).first ((plAt P (b-1)).last+1)∧(plAt P a).first≤(plAt P (b-1)).last:=by
 intro b
 induction b with
 | zero=>intro h;omega
 | succ b ih=>
  intro hab hb
  have hsucc:cellsTo c row d P a (b+1)=cellsTo c row d P a b++cellsIn c row d (plAt P b).first ((plAt P b).last+1):=by
   unfold cellsTo
   rw [show b+1-a=(b-a)+1 by omega,List.range'_concat,List.flatMap_append,show a+1*(b-a)=b by omega]
   simp
  have hlb:=h.le b (by omega)
  by_cases he:a=b
  ·subst he
   have:cellsTo c row d P a a=[]:=by simp [cellsTo]
   rw [hsucc,this]
   exact⟨rfl,hlb.1⟩
  ·obtain⟨i1,i2⟩:=ih (by omega) (by omega)
   obtain⟨a1,a2⟩:=h.adj (b-1) (by omega)
   rw [show b-1+1=b by omega] at a1 a2
   rw [hsucc,i1,Nat.add_sub_cancel]
   refine⟨?_,by omega⟩
   rw [cellsIn_split (a:=(plAt P a).first) (b:=(plAt P (b-1)).last+1) (e:=(plAt P b).last+1) (by omega) (by omega),cellsIn_split (a:=(plAt P (b-1)).last+1) (b:=(plAt P b).first) (e:=(plAt P b).last+1) (by omega) (by omega),cellsIn_none (a:=(plAt P (b-1)).last+1) (b:=(plAt P b).first) (fun i h1 h2=>a2 i (by omega) h2),List.nil_append]
def meantB (c:Cfg) (row:List RC) (d first last i:Nat):Bool:=decide (first≤i) && decide (i≤last) && thR c row d i
theorem mem_cellsIn {c:Cfg} {row:List RC} {d first last i:Nat}:i ∈ cellsIn c row d first (last+1) ↔ meantB c row d first last i=true:=by
 unfold cellsIn meantB
 rw [List.mem_filter,List.mem_range'_1]
 simp only [Bool.and_eq_true,decide_eq_true_eq]
 constructor
 ·rintro ⟨⟨h1,h2⟩,h3⟩;exact⟨⟨h1,by omega⟩,h3⟩
 ·rintro ⟨⟨h1,h2⟩,h3⟩;exact⟨⟨h1,by omega⟩,h3⟩
theorem cellsIn_nodup (c:Cfg) (row:List RC) (d a b:Nat):(cellsIn c row d a b).Nodup:=by
 unfold cellsIn
 exact List.Nodup.sublist List.filter_sublist List.nodup_range'
def marked (m:Mk) (x:RC):RC:=⟨x.b,x.origin,x.marks++[m]⟩
def markIf (p:Nat→Bool) (m:Mk) (row:List RC) (k:Nat):List RC:=(row.take k).mapIdx (fun i x=>bif p i then marked m x else x)++row.drop k
theorem markIf_length (p:Nat→Bool) (m:Mk) (row:List RC) (k:Nat):(markIf p m row k).length=row.length:=by simp [markIf];omega
theorem markIf_get (p:Nat→Bool) (m:Mk) (row:List RC) (k i:Nat):(markIf p m row k)[i]?=(row[i]?).map fun x=>bif decide (i<k) && p i then marked m x else x:=by
 unfold markIf
 by_cases hi:i<(row.take k).length
 ·rw [List.getElem?_append_left (by simpa using hi),List.getElem?_mapIdx]
  have hik:i<k:=by simp at hi;omega
  rw [List.getElem?_take,if_pos hik]
  simp [hik]
 ·rw [List.getElem?_append_right (by simpa using hi)]
  simp only [List.length_mapIdx,List.getElem?_drop]
  by_cases hr:i<row.length
  ·have hik:¬ i<k:=by simp at hi;omega
   have hl:(row.take k).length=k:=by simp;omega
   rw [hl,show k+(i-k)=i by omega]
   simp [hik]
  ·have hn:row[i]?=none:=List.getElem?_eq_none (by omega)
   have hl:row.length≤k+(i-(row.take k).length):=by simp;omega
   rw [hn,List.getElem?_eq_none hl];rfl
theorem markIf_all (p:Nat→Bool) (m:Mk) (row:List RC) (L:List Nat) (hn:L.Nodup) (hp:∀ i,i<row.length→(p i=true ↔ i ∈ L)):markAll row L m=markIf p m row row.length:=by
 have key:∀ (L:List Nat) (row:List RC) (i:Nat),L.Nodup→(markAll row L m)[i]?=(row[i]?).map fun x=>if i ∈ L then marked m x else x:=by
  intro L
  induction L with
  | nil=>intro row i _;simp [markAll]
  | cons r L ih=>
   intro row i hn
   rw [List.nodup_cons] at hn
   have:markAll row (r :: L) m=markAll (markC row r m) L m:=rfl
   rw [this,ih _ _ hn.2]
   unfold markC
   rw [List.getElem?_modify]
   by_cases hri:r=i
   ·subst hri
    cases row[r]? with
    | none=>rfl
    | some x=>simp [hn.1,marked]
   ·have hri':¬ i=r:=fun h=>hri h.symm
    cases row[i]? with
    | none=>rfl
    | some x=>simp [hri,hri']
 apply List.ext_getElem?
 intro i
 rw [key L row i hn,markIf_get]
 cases hr:row[i]? with
 | none=>rfl
 | some x=>
  have hi:i<row.length:=(List.getElem?_eq_some_iff.1 hr).1
  simp only [Option.map_some,Option.some.injEq,hi,decide_true,Bool.true_and]
  by_cases hm:i ∈ L
  ·rw [if_pos hm,(hp i hi).2 hm];rfl
  ·rw [if_neg hm]
   cases hpi:p i
   ·rfl
   ·exact absurd ((hp i hi).1 hpi) hm
theorem markIf_zero (p:Nat→Bool) (m:Mk) (row:List RC):markIf p m row 0=row:=by simp [markIf]
theorem markIf_no {p:Nat→Bool} {m:Mk} {row:List RC} {k:Nat} (h:p k=false):markIf p m row (k+1)=markIf p m row k:=by
 apply List.ext_getElem?
 intro i
 rw [markIf_get,markIf_get]
 congr 1
 funext x
 by_cases hi:i=k
 ·subst hi;simp [h]
 ·have:decide (i<k+1)=decide (i<k):=by rw [decide_eq_decide];omega
  rw [this]
theorem markIf_yes {p:Nat→Bool} {m:Mk} {row:List RC} {k:Nat} {x:RC} (h:p k=true) (hx:row[k]?=some x):markIf p m row (k+1)=(markIf p m row k).set k (marked m x):=by
 apply List.ext_getElem?
 intro i
 rw [markIf_get,List.getElem?_set]
 by_cases hi:k=i
 ·subst hi
  have hlt:k<row.length:=(List.getElem?_eq_some_iff.1 hx).1
  rw [if_pos rfl,if_pos (by rw [markIf_length];exact hlt),hx]
  simp [h]
 ·rw [if_neg hi,markIf_get]
  have:decide (i<k+1)=decide (i<k):=by rw [decide_eq_decide];omega
  rw [this]
theorem markIf_at {p:Nat→Bool} {m:Mk} {row:List RC} {k:Nat} {x:RC} (hx:row[k]?=some x):(markIf p m row k)[k]?=some x:=by
 rw [markIf_get,hx];simp
theorem placesOk_R (c:Cfg) (row:List RC) (d:Nat) (hb:∀ x,x ∈ row→x.b<256):PlacesOk c row d (placesR c row d):=by
 have hm:=numF_mono c row d row.length
 refine⟨fun j hj=>?_,fun j hj=>?_⟩
 ·have:=(placesR_ok c row d hb).2 _ (List.getElem_mem hj)
  rw [plAt_lt hj]
  exact⟨this.le,this.lt⟩
 ·obtain⟨t,h1,h2,h3⟩:=(plTo_adj (numF (atTo c row d row.length)) (fun j=>byF row (numF (atTo c row d row.length) j)) (fun j=>hidF (hidTo c row d row.length) j || (moreTo (pcF row (atTo c row d row.length) (hidTo c row d row.length) (atTo c row d row.length).length) (stF c d row (atTo c row d row.length) (hidTo c row d row.length) (atTo c row d row.length).length) (frF c d row (atTo c row d row.length)) (atTo c row d row.length).length (atTo c row d row.length).length).getD j false) (atTo c row d row.length).length).1 j hj
  have e2:(plAt (placesR c row d) j).last=numF (atTo c row d row.length) t:=h2
  have e3:(plAt (placesR c row d) (j+1)).first=numF (atTo c row d row.length) (t+1):=h3
  rw [e2,e3]
  exact⟨hm t (t+1) (by omega) h1,fun i h4 h5=>gap_none hm h1 h4 h5⟩
theorem cells_meant (c:Cfg) (row:List RC) (d:Nat) (hb:∀ x,x ∈ row→x.b<256) {a b:Nat} (hab:a<b) (hbl:b≤(placesR c row d).length) (m:Mk) :
  markAll row (cellsTo c row d (placesR c row d) a b) m=markIf (meantB c row d (plAt (placesR c row d) a).first (plAt (placesR c row d) (b-1)).last) m row row.length:=by
 rw [(cells_one (placesOk_R c row d hb) b hab hbl).1]
 exact markIf_all _ _ _ _ (cellsIn_nodup _ _ _ _ _) (fun i _=>mem_cellsIn.symm)
theorem cells_meant_all (c:Cfg) (row:List RC) (d:Nat) (hb:∀ x,x ∈ row→x.b<256) {a b:Nat} (hab:a<b) (hbl:b≤(placesR c row d).length) (q:Nat→Bool) :
  (cellsTo c row d (placesR c row d) a b).all q=(List.range row.length).all fun i=>!meantB c row d (plAt (placesR c row d) a).first (plAt (placesR c row d) (b-1)).last i || q i:=by
 have hok:=placesOk_R c row d hb
 have hlast:=(hok.le (b-1) (by omega)).2
 rw [(cells_one hok b hab hbl).1,Bool.eq_iff_iff,List.all_eq_true,List.all_eq_true]
 constructor
 ·intro h i hi
  cases hm:meantB c row d (plAt (placesR c row d) a).first (plAt (placesR c row d) (b-1)).last i
  ·rfl
  ·rw [h i (mem_cellsIn.2 hm)];rfl
 ·intro h i hi
  have hm:=mem_cellsIn.1 hi
  have hlt:i<row.length:=by
   unfold meantB at hm
   simp only [Bool.and_eq_true,decide_eq_true_eq] at hm
   omega
  have:=h i (List.mem_range.2 hlt)
  rw [hm] at this
  simpa using this
end Go.Proofs.YtgigkiocdiffjaaGreat
