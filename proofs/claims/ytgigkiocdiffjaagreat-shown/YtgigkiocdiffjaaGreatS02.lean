import Derived.Test.YtgigkiocdiffjaaGreatS01
import Derived.Laws.MakeOwn
set_option maxRecDepth 100000
set_option maxHeartbeats 16000000
namespace Veil
def okL (L a:Int):Bool:=decide (0≤a) && decide (a<L)
def relax (A:List Bool) (e:Int × Int):List Bool:=if A.getD e.1.toNat false=true then A.set e.2.toNat true else A
def relaxAll (E:List (Int × Int)) (A:List Bool):List Bool:=E.foldl relax A
def roundsL (E:List (Int × Int)):Nat→List Bool→List Bool
 | 0,A=>A
 | n+1,A=>relaxAll E (roundsL E n A)
def startL (n:Nat) (a:Int):List Bool:=(List.replicate n false).set a.toNat true
def leB (E:List (Int × Int)) (n:Nat) (a b:Int):Bool:=(roundsL E n (startL n a)).getD b.toNat false
def inE (E:List (Int × Int)) (n:Nat):Prop:=∀ e,e ∈ E→0≤e.1∧e.1<n∧0≤e.2∧e.2<n
def pathN (E:List (Int × Int)) (a:Nat):Nat→Nat→Prop
 | 0,b=>a=b
 | k+1,b=>∃ e,e ∈ E∧pathN E a k e.1.toNat∧e.2.toNat=b
def PathE (E:List (Int × Int)) (a b:Nat):Prop:=∃ k,pathN E a k b
theorem PathE.refl (E:List (Int × Int)) (a:Nat):PathE E a a:=⟨0,rfl⟩
theorem PathE.snoc {E:List (Int × Int)} {a:Nat} {e:Int × Int} (h:PathE E a e.1.toNat) (he:e ∈ E):PathE E a e.2.toNat:=by
 obtain⟨k,h⟩:=h;exact⟨k+1,e,he,h,rfl⟩
theorem PathE.trans {E:List (Int × Int)} {a b c:Nat} (h:PathE E a b) (h':PathE E b c):PathE E a c:=by
 obtain⟨k,h'⟩:=h'
 induction k generalizing c with
 | zero=>cases h';exact h
 | succ k ih=>
  obtain⟨e,he,hp,rfl⟩:=h'
  exact (ih hp).snoc he
theorem relax_length (A:List Bool) (e:Int × Int):(relax A e).length=A.length:=by unfold relax;split <;> simp
theorem relaxAll_length (E:List (Int × Int)) (A:List Bool):(relaxAll E A).length=A.length:=by
 induction E generalizing A with
 | nil=>rfl
 | cons e E ih=>simp only [relaxAll,List.foldl_cons];rw [← relaxAll,ih,relax_length]
theorem roundsL_length (E:List (Int × Int)) (n:Nat) (A:List Bool):(roundsL E n A).length=A.length:=by
 induction n with
 | zero=>rfl
 | succ n ih=>rw [roundsL,relaxAll_length,ih]
def leA (A B:List Bool):Prop:=∀ i,A.getD i false=true→B.getD i false=true
theorem leA.trans {A B C:List Bool} (h:leA A B) (h':leA B C):leA A C:=fun i hi=>h' i (h i hi)
theorem getD_set (A:List Bool) (j i:Nat):(A.set j true).getD i false=(A.getD i false || (decide (i=j) && decide (j<A.length))):=by
 simp only [List.getD,List.getElem?_set]
 by_cases h:j=i
 ·subst h
  by_cases hl:j<A.length
  ·simp [hl]
  ·simp [hl]
 ·rw [if_neg h]
  have:¬ i=j:=fun e=>h e.symm
  simp [this]
theorem relax_le (A:List Bool) (e:Int × Int):leA A (relax A e):=by
 intro i hi
 unfold relax
 split
 ·rw [getD_set,hi];rfl
 ·exact hi
theorem relaxAll_le (E:List (Int × Int)) (A:List Bool):leA A (relaxAll E A):=by
 induction E generalizing A with
 | nil=>exact fun i h=>h
 | cons e E ih=>exact (relax_le A e).trans (ih _)
theorem roundsL_le (E:List (Int × Int)) (n:Nat) (A:List Bool):leA A (roundsL E n A):=by
 induction n with
 | zero=>exact fun i h=>h
 | succ n ih=>exact ih.trans (relaxAll_le E _)
theorem leA.antisymm {A B:List Bool} (h:leA A B) (h':leA B A) (hl:A.length=B.length):A=B:=by
 apply List.ext_getElem hl
 intro i h1 h2
 have e1:A.getD i false=A[i]:=by simp [h1]
 have e2:B.getD i false=B[i]:=by simp [h2]
 have g1:=h i
 have g2:=h' i
 rw [e1,e2] at g1 g2
 cases ha:A[i] <;> cases hb:B[i] <;> simp_all
theorem closed_of_stable (E:List (Int × Int)) (A:List Bool) (h:relaxAll E A=A) (e:Int × Int) (he:e ∈ E) (hl:e.2.toNat<A.length) (h1:A.getD e.1.toNat false=true):A.getD e.2.toNat false=true:=by
 induction E generalizing A with
 | nil=>cases he
 | cons f E ih=>
  simp only [relaxAll,List.foldl_cons] at h
  rw [← relaxAll] at h
  have hf:relax A f=A:=by
   refine leA.antisymm ?_ (relax_le A f) (relax_length A f)
   have:=relaxAll_le E (relax A f)
   rwa [h] at this
  rcases List.mem_cons.1 he with rfl|he
  ·unfold relax at hf
   rw [if_pos h1] at hf
   have:=getD_set A e.2.toNat e.2.toNat
   rw [hf] at this
   rw [this];simp [hl]
  ·rw [hf] at h
   exact ih A h he hl h1
def cnt (A:List Bool):Nat:=(A.filter id).length
theorem cnt_lt {A B:List Bool} (h:leA A B) (hl:A.length=B.length) (hne:A≠B):cnt A<cnt B:=by
 induction A generalizing B with
 | nil=>cases B with
  | nil=>exact absurd rfl hne
  | cons b B=>simp at hl
 | cons a A ih=>cases B with
  | nil=>simp at hl
  | cons b B=>
   have h0:a=true→b=true:=by simpa using h 0
   have hr:leA A B:=fun i hi=>by simpa using h (i+1) (by simpa using hi)
   have hl':A.length=B.length:=by simpa using hl
   by_cases e:A=B
   ·subst e
    cases a <;> cases b <;> simp_all [cnt]
   ·have:=ih hr hl' e
    clear ih h hne e hl hr
    unfold cnt at *
    cases a <;> cases b <;> simp_all <;> omega
theorem cnt_le (A:List Bool):cnt A≤A.length:=List.length_filter_le _ _
theorem roundsL_stable (E:List (Int × Int)) (n:Nat) (A:List Bool) (hA:1≤cnt A):relaxAll E (roundsL E n A)=roundsL E n A∨n+1≤cnt (roundsL E n A):=by
 induction n with
 | zero=>right;simpa [roundsL] using hA
 | succ n ih=>
  by_cases hs:relaxAll E (roundsL E (n+1) A)=roundsL E (n+1) A
  ·exact Or.inl hs
  ·right
   rcases ih with h|h
   ·exfalso;apply hs;rw [roundsL,h,h]
   ·by_cases e:relaxAll E (roundsL E n A)=roundsL E n A
    ·exfalso;apply hs;rw [roundsL,e,e]
    ·have:=cnt_lt (relaxAll_le E (roundsL E n A)) (relaxAll_length E _).symm (fun h=>e h.symm)
     rw [roundsL];omega
theorem startL_length (n:Nat) (a:Int):(startL n a).length=n:=by simp [startL]
theorem startL_get (n:Nat) (a:Int) (i:Nat):(startL n a).getD i false=(decide (i=a.toNat) && decide (a.toNat<n)):=by
 unfold startL
 rw [getD_set]
 simp [List.getD,List.getElem?_replicate]
 split <;> simp
theorem startL_cnt (n:Nat) (a:Int) (h:a.toNat<n):1≤cnt (startL n a):=by
 unfold cnt
 have:true ∈ (startL n a).filter id:=by
  rw [List.mem_filter]
  refine⟨?_,rfl⟩
  have h1:(startL n a)[a.toNat]'(by rw [startL_length];exact h)=true:=by simp [startL]
  rw [← h1];exact List.getElem_mem _
 exact List.length_pos_of_mem this
theorem stableL (E:List (Int × Int)) (n:Nat) (a:Int) (h:a.toNat<n):relaxAll E (roundsL E n (startL n a))=roundsL E n (startL n a):=by
 rcases roundsL_stable E n (startL n a) (startL_cnt n a h) with h'|h'
 ·exact h'
 ·have:=cnt_le (roundsL E n (startL n a))
  rw [roundsL_length,startL_length] at this
  omega
theorem relax_sound (E:List (Int × Int)) (a:Nat) (A:List Bool) (e:Int × Int) (he:e ∈ E) (h:∀ i,A.getD i false=true→PathE E a i):∀ i,(relax A e).getD i false=true→PathE E a i:=by
 intro i hi
 unfold relax at hi
 split at hi
 ·rename_i h1
  rw [getD_set] at hi
  simp only [Bool.or_eq_true,Bool.and_eq_true,decide_eq_true_eq] at hi
  rcases hi with hi|⟨rfl,_⟩
  ·exact h i hi
  ·exact (h _ h1).snoc he
 ·exact h i hi
theorem relaxAll_sound (E F:List (Int × Int)) (hF:∀ e,e ∈ F→e ∈ E) (a:Nat) (A:List Bool) (h:∀ i,A.getD i false=true→PathE E a i):∀ i,(relaxAll F A).getD i false=true→PathE E a i:=by
 induction F generalizing A with
 | nil=>exact h
 | cons e F ih=>
  simp only [relaxAll,List.foldl_cons]
  exact ih (fun x hx=>hF x (List.mem_cons_of_mem _ hx)) _ (relax_sound E a A e (hF e (List.mem_cons_self ..)) h)
theorem roundsL_sound (E:List (Int × Int)) (n m:Nat) (a:Int) (i:Nat) (h:(roundsL E m (startL n a)).getD i false=true):PathE E a.toNat i:=by
 induction m generalizing i with
 | zero=>
  rw [roundsL,startL_get] at h
  simp only [Bool.and_eq_true,decide_eq_true_eq] at h
  rw [h.1];exact PathE.refl _ _
 | succ m ih=>exact relaxAll_sound E E (fun _ h=>h) a.toNat _ ih i h
theorem leB_iff (E:List (Int × Int)) (n:Nat) (hE:inE E n) (a b:Int) (ha:a.toNat<n):leB E n a b=true ↔ PathE E a.toNat b.toNat:=by
 constructor
 ·exact roundsL_sound E n n a _
 ·rintro ⟨k,hk⟩
  have key:∀ k c,pathN E a.toNat k c→(roundsL E n (startL n a)).getD c false=true:=by
   intro k
   induction k with
   | zero=>
    intro c hc
    cases hc
    refine roundsL_le E n _ _ ?_
    rw [startL_get];simp [ha]
   | succ k ih=>
    rintro c ⟨e,he,hp,rfl⟩
    refine closed_of_stable E _ (stableL E n a ha) e he ?_ (ih _ hp)
    rw [roundsL_length,startL_length]
    have:=hE e he;omega
  exact key k _ hk
def fwStep (k:Nat) (f:Nat→Nat→Bool) (a b:Nat):Bool:=f a b || (f a k && f k b)
def fw (f:Nat→Nat→Bool):Nat→Nat→Nat→Bool
 | 0=>f
 | k+1=>fwStep k (fw f k)
def fwInit (E:List (Int × Int)) (a b:Nat):Bool:=decide (a=b) || E.any fun e=>decide (e.1.toNat=a) && decide (e.2.toNat=b)
def leM (E:List (Int × Int)) (n:Nat) (a b:Nat):Bool:=fw (fwInit E) n a b
theorem fw_mono (f:Nat→Nat→Bool) (k a b:Nat) (h:f a b=true):fw f k a b=true:=by
 induction k with
 | zero=>exact h
 | succ k ih=>simp [fw,fwStep,ih]
theorem fw_trans (f:Nat→Nat→Bool) (k:Nat):∀ m,m<k→∀ a b,fw f k a m=true→fw f k m b=true→fw f k a b=true:=by
 induction k with
 | zero=>intro m hm;omega
 | succ k ih=>
  intro m hm a b h1 h2
  simp only [fw,fwStep,Bool.or_eq_true,Bool.and_eq_true] at h1 h2 ⊢
  by_cases e:m=k
  ·subst e
   have g1:fw f m a m=true:=h1.elim id And.left
   have g2:fw f m m b=true:=h2.elim id And.right
   exact Or.inr ⟨g1,g2⟩
  ·have hm':m<k:=by omega
   rcases h1 with h1|h1 <;> rcases h2 with h2|h2
   ·exact Or.inl (ih m hm' a b h1 h2)
   ·exact Or.inr ⟨ih m hm' a k h1 h2.1,h2.2⟩
   ·exact Or.inr ⟨h1.1,ih m hm' k b h1.2 h2⟩
   ·exact Or.inr ⟨h1.1,h2.2⟩
theorem fw_sound (E:List (Int × Int)) (k a b:Nat) (h:fw (fwInit E) k a b=true):PathE E a b:=by
 induction k generalizing a b with
 | zero=>
  simp only [fw,fwInit,Bool.or_eq_true,decide_eq_true_eq,List.any_eq_true,Bool.and_eq_true] at h
  rcases h with rfl|⟨e,he,rfl,rfl⟩
  ·exact PathE.refl _ _
  ·exact (PathE.refl E e.1.toNat).snoc he
 | succ k ih=>
  simp only [fw,fwStep,Bool.or_eq_true,Bool.and_eq_true] at h
  rcases h with h|h
  ·exact ih _ _ h
  ·exact (ih _ _ h.1).trans (ih _ _ h.2)
theorem leM_iff (E:List (Int × Int)) (n:Nat) (hE:inE E n) (a b:Nat):leM E n a b=true ↔ PathE E a b:=by
 constructor
 ·exact fw_sound E n a b
 ·rintro ⟨k,hk⟩
  induction k generalizing b with
  | zero=>cases hk;exact fw_mono _ _ _ _ (by simp [fwInit])
  | succ k ih=>
   obtain⟨e,he,hp,rfl⟩:=hk
   refine fw_trans _ n e.1.toNat (by have:=hE e he;omega) _ _ (ih _ hp) ?_
   refine fw_mono _ _ _ _ ?_
   simp only [fwInit,Bool.or_eq_true,List.any_eq_true,Bool.and_eq_true,decide_eq_true_eq]
   exact Or.inr ⟨e,he,rfl,rfl⟩
theorem leM_leB (E:List (Int × Int)) (n:Nat) (hE:inE E n) (a b:Int) (ha:a.toNat<n):leM E n a.toNat b.toNat=leB E n a b:=by
 rw [Bool.eq_iff_iff,leM_iff E n hE,leB_iff E n hE a b ha]
end Veil
namespace Veil
structure Cfg where
 labels:Int
 edges:List (Int × Int)
 rules:List (ByteArray × Int)
 grants:List (Int × Int)
def edgeOk (L:Int) (e:Int × Int):Bool:=okL L e.1 && okL L e.2 && !(e.1 == e.2)
def labelsB (c:Cfg):Bool:=decide (1≤c.labels) && decide (c.labels≤6) && decide (c.edges.length≤30) && c.edges.all (edgeOk c.labels)
def Cfg.n (c:Cfg):Nat:=c.labels.toNat
def Cfg.le (c:Cfg) (a b:Int):Bool:=leB c.edges c.n a b
def firstN (p:Nat→Bool) (n:Nat):Int:=match (List.range n).find? p with
 | some j=>j
 | none=>-1
theorem firstN_yes {p:Nat→Bool} {n j:Nat} (hj:j<n) (h:p j=true) (hno:∀ i,i<j→p i=false):firstN p n=j:=by
 unfold firstN
 have:(List.range n).find? p=some j:=by
  rw [List.find?_eq_some_iff_getElem]
  refine⟨h,j,by simpa using hj,by simp,fun i hi=>?_⟩
  simp [hno i hi]
 rw [this]
theorem firstN_no {p:Nat→Bool} {n:Nat} (hno:∀ i,i<n→p i=false):firstN p n=-1:=by
 unfold firstN
 have:(List.range n).find? p=none:=by
  rw [List.find?_eq_none]
  intro i hi
  simp [hno i (by simpa using hi)]
 rw [this]
theorem firstN_cases (p:Nat→Bool) (n:Nat):(∃ j,j<n∧p j=true∧(∀ i,i<j→p i=false)∧firstN p n=j)∨((∀ i,i<n→p i=false)∧firstN p n=-1):=by
 by_cases h:∃ j,j<n∧p j=true
 ·left
  have:∀ m,(∃ j,j<m∧j<n∧p j=true)→∃ j,j<n∧p j=true∧∀ i,i<j→p i=false:=by
   intro m
   induction m with
   | zero=>rintro ⟨j,hj,_⟩;omega
   | succ m ih=>
    rintro ⟨j,hj,hn,hp⟩
    by_cases e:∃ i,i<m∧i<n∧p i=true
    ·exact ih e
    ·refine⟨j,hn,hp,fun i hi=>?_⟩
     cases hpi:p i with
     | false=>rfl
     | true=>exact absurd ⟨i,by omega,by omega,hpi⟩ e
  obtain⟨j,hj,hp⟩:=h
  obtain⟨j',h1,h2,h3⟩:=this n ⟨j,hj,hj,hp⟩
  exact⟨j',h1,h2,h3,firstN_yes h1 h2 h3⟩
 ·right
  have:∀ i,i<n→p i=false:=fun i hi=>by
   cases hpi:p i with
   | false=>rfl
   | true=>exact absurd ⟨i,hi,hpi⟩ h
  exact⟨this,firstN_no this⟩
def Cfg.up (c:Cfg) (a b j:Int):Bool:=c.le a j && c.le b j
def Cfg.down (c:Cfg) (a b j:Int):Bool:=c.le j a && c.le j b
def Cfg.isJoin (c:Cfg) (a b:Int) (j:Nat):Bool:=c.up a b j && (List.range c.n).all fun k=>!(c.up a b k && !c.le j k)
def Cfg.isMeet (c:Cfg) (a b:Int) (j:Nat):Bool:=c.down a b j && (List.range c.n).all fun k=>!(c.down a b k && !c.le k j)
def Cfg.join (c:Cfg) (a b:Int):Int:=firstN (c.isJoin a b) c.n
def Cfg.meet (c:Cfg) (a b:Int):Int:=firstN (c.isMeet a b) c.n
def Cfg.circle (c:Cfg):Prop:=∃ a b:Nat,a<c.n∧b<c.n∧a≠b∧c.le a b=true∧c.le b a=true
def Cfg.noLat (c:Cfg):Prop:=∃ a b:Nat,a<c.n∧b<c.n∧(c.join a b<0∨c.meet a b<0)
def sameS (a b:ByteArray):Bool:=a.toList == b.toList
def ruleOk (c:Cfg) (i:Nat) (r:ByteArray × Int):Bool:=validL r.1.data.toList && okL c.labels r.2 && (c.rules.take i).all fun q=>!sameS q.1 r.1
def rulesToB (c:Cfg):Nat→Bool
 | 0=>true
 | k+1=>rulesToB c k && match c.rules[k]? with
  | some r=>ruleOk c k r
  | none=>true
theorem rulesToB_succ (c:Cfg) (k:Nat) (r:ByteArray × Int) (h:c.rules[k]?=some r):rulesToB c (k+1)=(rulesToB c k && ruleOk c k r):=by rw [rulesToB,h]
theorem rulesToB_false (c:Cfg) (k m:Nat) (h:rulesToB c k=false) (hm:k≤m):rulesToB c m=false:=by
 induction m with
 | zero=>
  obtain rfl:k=0:=by omega
  exact h
 | succ m ih=>
  by_cases e:k=m+1
  ·rw [← e];exact h
  ·rw [rulesToB,ih (by omega)];rfl
def rulesB (c:Cfg):Bool:=decide (c.rules.length≤8) && rulesToB c c.rules.length
def grantOk (c:Cfg) (g:Int × Int):Bool:=okL c.labels g.1 && okL c.labels g.2 && !(g.1 == g.2) && c.le g.2 g.1
def grantsB (c:Cfg):Bool:=decide (c.grants.length≤30) && c.grants.all (grantOk c)
structure CheckIs (c:Cfg) (e:Int):Prop where
 one:labelsB c=false→e=1
 two:labelsB c=true→c.circle→e=2
 three:labelsB c=true→¬ c.circle→c.noLat→e=3
 four:labelsB c=true→¬ c.circle→¬ c.noLat→rulesB c=false→e=4
 five:labelsB c=true→¬ c.circle→¬ c.noLat→rulesB c=true→grantsB c=false→e=5
 ok:labelsB c=true→¬ c.circle→¬ c.noLat→rulesB c=true→grantsB c=true→e=0
theorem CheckIs.same {c:Cfg} {e f:Int} (h:CheckIs c e) (h':CheckIs c f):e=f:=by
 cases hl:labelsB c with
 | false=>rw [h.one hl,h'.one hl]
 | true=>
  by_cases h1:c.circle
  ·rw [h.two hl h1,h'.two hl h1]
  by_cases h2:c.noLat
  ·rw [h.three hl h1 h2,h'.three hl h1 h2]
  cases h3:rulesB c with
  | true=>
   cases h4:grantsB c with
   | true=>rw [h.ok hl h1 h2 h3 h4,h'.ok hl h1 h2 h3 h4]
   | false=>rw [h.five hl h1 h2 h3 h4,h'.five hl h1 h2 h3 h4]
  | false=>rw [h.four hl h1 h2 h3,h'.four hl h1 h2 h3]
theorem CheckIs.right {c:Cfg} {e:Int} (h:CheckIs c e) (he:e=0):labelsB c=true∧¬ c.circle∧¬ c.noLat:=by
 cases hl:labelsB c with
 | false=>rw [h.one hl] at he;exact absurd he (by omega)
 | true=>
  refine⟨rfl,fun h1=>?_,fun h2=>?_⟩
  ·rw [h.two hl h1] at he;exact absurd he (by omega)
  ·by_cases h1:c.circle
   ·rw [h.two hl h1] at he;exact absurd he (by omega)
   ·rw [h.three hl h1 h2] at he;exact absurd he (by omega)
theorem labels_of {c:Cfg} (h:labelsB c=true):1≤c.labels∧c.labels≤6∧c.edges.length≤30∧inE c.edges c.n∧(c.n:Int)=c.labels∧c.n≤6∧1≤c.n:=by
 simp only [labelsB,Bool.and_eq_true,decide_eq_true_eq,List.all_eq_true] at h
 obtain⟨⟨⟨h1,h2⟩,h3⟩,h4⟩:=h
 have hn:(c.n:Int)=c.labels:=by unfold Cfg.n;omega
 refine⟨h1,h2,h3,fun e he=>?_,hn,by omega,by omega⟩
 have:=h4 e he
 simp only [edgeOk,okL,Bool.and_eq_true,decide_eq_true_eq] at this
 omega
end Veil
namespace Go.Proofs.YtgigkiocdiffjaaGreat
open Go.RowKit Veil
def xE (p:Int × Int):Value:=.int .i64 p.1
def yE (p:Int × Int):Value:=.int .i64 p.2
def xR (r:ByteArray × Int):Value:=.string r.1
def yR (r:ByteArray × Int):Value:=.int .i64 r.2
structure CfgV where
 ea:Option Addr
 ec:Nat
 ra:Option Addr
 rc:Nat
 ga:Option Addr
 gc:Nat
def cfgCells (c:Cfg) (v:CfgV):Array Value:=#[.int .i64 c.labels,.slice v.ea c.edges.length v.ec,.slice v.ra c.rules.length v.rc,.slice v.ga c.grants.length v.gc]
structure CfgOk (c:Cfg):Prop where
 edges:c.edges.length≤8796093022208
 rules:c.rules.length≤8796093022208
 grants:c.grants.length≤8796093022208
 texts:∀ r,r ∈ c.rules→r.1.size≤140737488355328
structure CfgAt (w:World) (c:Cfg) (v:CfgV):Prop where
 edges:SeqAt xE yE w v.ea c.edges
 rules:SeqAt xR yR w v.ra c.rules
 grants:SeqAt xE yE w v.ga c.grants
structure CfgNil (c:Cfg) (v:CfgV):Prop where
 edges:v.ea=none→c.edges.length=0∧v.ec=0
 rules:v.ra=none→c.rules.length=0∧v.rc=0
 grants:v.ga=none→c.grants.length=0∧v.gc=0
theorem CfgAt.below {w w':World} {c:Cfg} {v:CfgV} (h:CfgAt w c v) (hb:Below w.heap.size w w'):CfgAt w' c v:=⟨h.edges.below hb,h.rules.below hb,h.grants.below hb⟩
structure OnlyAt (g:Nat) (w w':World):Prop where
 os:w'.os=w.os
 tape:w'.tape=w.tape
 output:w'.output=w.output
 size:w'.heap.size=w.heap.size
 block:∀ k,k≠g→w'.heap[k]?=w.heap[k]?
theorem OnlyAt.row {g k:Nat} {w w':World} {o:Obj} (h:OnlyAt g w w') (hk:k≠g) (ho:w.heap[k]?=some o):w'.heap[k]?=some o:=(h.block k hk).trans ho
theorem OnlyAt.below {g B:Nat} {w w':World} (h:OnlyAt g w w') (hB:B≤g):Below B w w':=⟨h.os,h.tape,h.output,by rw [h.size];exact Nat.le_refl _,fun k hk=>h.block k (by omega)⟩
end Go.Proofs.YtgigkiocdiffjaaGreat
namespace Go.Proofs.YtgigkiocdiffjaaGreat
open Go.RowKit Veil
theorem brow_cell {w:World} {g j:Nat} {A:List Bool} {ty:TypeId} (h:w.heap[g]?=some (.cells (bools A) ty (0,0))) (hj:j<A.length):w.cell? ⟨g,j,none⟩=some (.bool (A.getD j false)):=by
 rw [cell_of_row _ _ _ _ _ _ h,bools_get];simp [hj]
theorem brow_store {w:World} {g j:Nat} {A:List Bool} {ty:TypeId} (h:w.heap[g]?=some (.cells (bools A) ty (0,0))):(w.setCell ⟨g,j,none⟩ (.bool true)).heap[g]?=some (.cells (bools (A.set j true)) ty (0,0)):=by
 rw [heap_setCell_same _ _ _ _ _ _ h,bools_set]
theorem relaxAll_snoc (E:List (Int × Int)) (A:List Bool) (i:Nat) (e:Int × Int) (h:E[i]?=some e):relaxAll (E.take (i+1)) A=relax (relaxAll (E.take i) A) e:=by
 rw [List.take_add_one,h];simp [relaxAll]
def BoxAt (w:World) (g:Nat) (c:Cfg) (v:CfgV):Prop:=w.heap[g]?=some (.cells (cfgCells c v) 31 (0,0))
theorem BoxAt.below {w w':World} {g B:Nat} {c:Cfg} {v:CfgV} (h:BoxAt w g c v) (hb:Below B w w') (hg:g<B):BoxAt w' g c v:=Below.row hb h hg
theorem BoxAt.lt {w:World} {g:Nat} {c:Cfg} {v:CfgV} (h:BoxAt w g c v):g<w.heap.size:=lt_of_row h
theorem BoxAt.cells {w:World} {g:Nat} {c:Cfg} {v:CfgV} (h:BoxAt w g c v):w.cell? ⟨g,0,none⟩=some (.int .i64 c.labels)∧w.cell? ⟨g,1,none⟩=some (.slice v.ea c.edges.length v.ec)∧w.cell? ⟨g,2,none⟩=some (.slice v.ra c.rules.length v.rc)∧w.cell? ⟨g,3,none⟩=some (.slice v.ga c.grants.length v.gc):=
 ⟨by rw [cell_of_row _ _ _ _ _ _ h];rfl,by rw [cell_of_row _ _ _ _ _ _ h];rfl,by rw [cell_of_row _ _ _ _ _ _ h];rfl,by rw [cell_of_row _ _ _ _ _ _ h];rfl⟩
theorem box_new (w:World) (c:Cfg) (v:CfgV):BoxAt (w.alloc (.cells (cfgCells c v) 31)) w.heap.size c v:=Go.heap_alloc_new _ _
theorem below_box (w:World) (o:Obj):Below w.heap.size w (w.alloc o):=(Below.refl _ _).alloc (Nat.le_refl _) _
theorem rlabel_any (c:Cfg) (v:CfgV) (a:Int) (w:World) :
  Calls Tryz.prog 148 #[.agg (cfgCells c v),.int .i64 a] w fun e w'=>e=.returned (.bool (okL c.labels a))∧Below w.heap.size w w':=by
 unfold cfgCells
 by_cases h:0≤a
 ·go_enter Tryz.func148,Tryz.ntmps148
  go_wp2
  go_ret
  exact⟨ret_bool (by simp [okL,h]),below_box _ _⟩
 ·go_enter Tryz.func148,Tryz.ntmps148
  go_wp2
  go_ret
  exact⟨ret_bool (by simp [okL];omega),below_box _ _⟩
theorem rleq_any (c:Cfg) (v:CfgV) (a b:Nat) (w:World) (hl:labelsB c=true) (hat:CfgAt w c v) (ha:a<c.n) (hb:b<c.n) :
  Calls Tryz.prog 102 #[.agg (cfgCells c v),.int .i64 a,.int .i64 b] w fun e w'=>e=.returned (.bool (c.le a b))∧Below w.heap.size w w':=by
 obtain⟨_,_,hE30,hE,hn,hn6,hn1⟩:=labels_of hl
 obtain⟨L,E,R,G⟩:=c
 obtain⟨ea,ec,ra,rc,ga,gc⟩:=v
 have hedge:=hat.edges
 clear hat hl
 unfold Cfg.le
 simp only [Cfg.n] at *
 obtain⟨n,rfl⟩:∃ n:Nat,L=n:=⟨L.toNat,hn.symm⟩
 simp only [Int.toNat_natCast] at *
 clear hn
 have hmk:∀ w,(Instr.makeSlice 195 (.int .i64 (n:Int)) (.int .i64 (n:Int))).run Tryz.prog w=.ok (.slice (some ⟨w.heap.size,0,none⟩) n n) (w.alloc (.cells (bools (fvec n fun _=>false)) 4)):=fun w=>run_make_bools n (by omega) w
 have hz0:(bools (fvec n fun _=>false))[a]?=some (.bool false):=by rw [bools_get,fvec_get _ _ _ ha];rfl
 have hst:(bools (fvec n fun _=>false)).setIfInBounds a (.bool true)=bools (startL n a):=by
  rw [bools_set]
  have:fvec n (fun _=>false)=List.replicate n false:=by
   apply List.ext_getElem?
   intro i
   by_cases hi:i<n
   ·rw [fvec_get _ _ _ hi,List.getElem?_replicate,if_pos hi]
   ·rw [List.getElem?_eq_none (by rw [fvec_length];omega),List.getElem?_eq_none (by simp;omega)]
  rw [this];rfl
 have HST:=hide hst
 have HE:=hide hE
 clear hst hE
 obtain⟨eb,eo,hea,hblt,hcells⟩:∃ eb eo,(E=[]∨ea=some ⟨eb,eo,none⟩)∧(E=[]∨eb<w.heap.size)∧∀ i p,E[i]?=some p→w.cell? ⟨eb,eo+i*2,none⟩=some (xE p)∧w.cell? ⟨eb,eo+i*2+1,none⟩=some (yE p):=by
  rcases hedge with h|⟨b,off,h,h1,h2⟩
  ·exact⟨0,0,Or.inl h,Or.inl h,fun i p hp=>by rw [show E=[] from h] at hp;simp at hp⟩
  ·exact⟨b,off,Or.inr h,Or.inr h1,h2⟩
 clear hedge
 have HC:=hide hcells
 have HA:=hide hea
 have HBL:=hide hblt
 clear hcells hblt hea
 unfold cfgCells
 go_enter Tryz.func102,Tryz.ntmps102
 go_wp2
 go_loopw [8] (fun i wr=>∃ k:Nat,k≤n∧i=.int .i64 k∧wr.heap[w.heap.size+1]?=some (.cells (bools (roundsL E k (startL n a))) 4 (0,0))∧BoxAt wr w.heap.size ⟨n,E,R,G⟩ ⟨ea,ec,ra,rc,ga,gc⟩∧Below w.heap.size w wr) (fun i _=>n-(intOf i).toNat)
 case atStart=>
  refine⟨0,Nat.zero_le _,rfl,?_,heap_alloc2_old _ _ _,(below_box _ _).alloc (by simp) _⟩
  rw [HST.out];exact heap_alloc2_new _ _ _
 case round=>
  obtain⟨wo,rfl⟩:∃ x,x=wr:=⟨_,rfl⟩
  obtain⟨k,hk,rfl,hrow,hbox,hbel⟩:=hrel
  obtain⟨q0,q1,q2,q3⟩:=hbox.cells
  have HR:=hide hrow
  have HB:=hide hbox
  by_cases hlt:k<n
  ·clear hrow hbox q1 q2 q3
   go_wp2
   go_loopw [9] (fun i wr=>∃ j:Nat,j≤E.length∧i=.int .i64 j∧wr.heap[w.heap.size+1]?=some (.cells (bools (relaxAll (E.take j) (roundsL E k (startL n a)))) 4 (0,0))∧BoxAt wr w.heap.size ⟨n,E,R,G⟩ ⟨ea,ec,ra,rc,ga,gc⟩∧Below w.heap.size w wr) (fun i _=>E.length-(intOf i).toNat)
   case atStart=>exact⟨0,Nat.zero_le _,rfl,by simpa [relaxAll] using HR.out,HB.out,hbel⟩
   case round=>
    obtain⟨j,hj,rfl,hrow,hbox,hbel2⟩:=hrel
    have HR2:=hide hrow
    have HB2:=hide hbox
    obtain⟨q0',q1',q2',q3'⟩:=hbox.cells
    by_cases hjl:j<E.length
    ·have hEne:E≠[]:=fun e=>by rw [e] at hjl;simp at hjl
     have hea:ea=some ⟨eb,eo,none⟩:=HA.out.resolve_left hEne
     have hbl:eb<w.heap.size:=HBL.out.resolve_left hEne
     dsimp only at q1'
     rw [hea] at q1'
     have hej:E[j]?=some E[j]:=List.getElem?_eq_getElem hjl
     obtain⟨c1,c2⟩:=HC.out j _ hej
     have hin:=HE.out _ (List.getElem_mem hjl)
     have HS:=hide (relaxAll_snoc E (roundsL E k (startL n a)) j _ hej)
     generalize E[j]=e at *
     obtain⟨e1,e2⟩:=e
     simp only at hin
     obtain⟨h1,h2,h3,h4⟩:=hin
     obtain⟨x,rfl⟩:=Int.eq_ofNat_of_zero_le h1
     obtain⟨y,rfl⟩:=Int.eq_ofNat_of_zero_le h3
     have d1:wr.cell? ⟨eb,eo+j*2,none⟩=some (.int .i64 x):=(hbel2.cell (p:=⟨eb,eo+j*2,none⟩) hbl).trans c1
     have d2:wr.cell? ⟨eb,eo+j*2+1,none⟩=some (.int .i64 y):=(hbel2.cell (p:=⟨eb,eo+j*2+1,none⟩) hbl).trans c2
     have hlen:(relaxAll (E.take j) (roundsL E k (startL n a))).length=n:=by rw [relaxAll_length,roundsL_length,startL_length]
     have r1:=brow_cell hrow (j:=x) (by rw [hlen];omega)
     have r2:=brow_cell hrow (j:=y) (by rw [hlen];omega)
     have f2:wr.frozen? ⟨w.heap.size+1,y,none⟩=false:=frozen_of_row _ _ _ _ _ hrow
     have hx:x<n:=by omega
     have hy:y<n:=by omega
     generalize hA:relaxAll (E.take j) (roundsL E k (startL n a))=A at *
     clear hA hej c1 c2 hrow hbox hea h1 h2 h3 h4 hEne HR HB
     cases hg:A.getD x false
     ·rw [hg] at r1
      have HG:=hide hg
      clear hg
      go_wp2
      go_roundw
      case rel=>exact⟨j+1,by omega,by go_num,by rw [HS.out,relax];simp only [Int.toNat_natCast];rw [HG.out];exact HR2.out,HB2.out,hbel2⟩
      case measure=>simp [intOf];omega
     ·rw [hg] at r1
      have HG:=hide hg
      clear hg
      go_wp2
      go_roundw
      case rel=>exact⟨j+1,by omega,by go_num,by rw [HS.out,relax];simp only [Int.toNat_natCast];rw [HG.out,if_pos rfl];exact brow_store HR2.out,row_other HB2.out (by omega),hbel2.setCell (by dsimp only;omega) _⟩
      case measure=>simp [intOf];omega
    ·have:j=E.length:=by omega
     subst this
     clear hrow hbox
     go_wp2
     go_roundw
     case rel=>exact⟨k+1,by omega,by go_num,by rw [roundsL];have:=HR2.out;rwa [List.take_length] at this,HB2.out,hbel2⟩
     case measure=>simp [intOf];omega
  ·have:k=n:=by omega
   subst this
   have r1:=brow_cell hrow (j:=b) (by rw [roundsL_length,startL_length];omega)
   have HLE:=hide (show (roundsL E k (startL k a)).getD b false=leB E k a b from rfl)
   clear hrow hbox
   go_wp2
   go_ret
   exact⟨ret_bool HLE.out,hbel⟩
end Go.Proofs.YtgigkiocdiffjaaGreat
