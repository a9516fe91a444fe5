import Derived.Test.YtgigkiocdiffjaaGreatE44
import Derived.Test.YtgigkiocdiffjaaGreatE25
import Derived.Test.YtgigkiocdiffjaaGreatE30
import Derived.Test.YtgigkiocdiffjaaGreatE29
import Derived.Test.YtgigkiocdiffjaaGreatE45
import Derived.Test.YtgigkiocdiffjaaGreatE46
import Derived.Test.YtgigkiocdiffjaaGreatE47
import Derived.Test.YtgigkiocdiffjaaGreatE26
import Derived.Test.YtgigkiocdiffjaaGreatE27
set_option maxRecDepth 100000
set_option maxHeartbeats 16000000
namespace Go.Proofs.YtgigkiocdiffjaaGreat
open Go.RowKit Veil
theorem check_ex (c:Cfg):∃ e,CheckIs c e:=by
 cases hl:labelsB c with
 | false=>exact⟨1,fun _=>rfl,fun h=>(by rw [hl] at h;cases h),fun h=>(by rw [hl] at h;cases h),fun h=>(by rw [hl] at h;cases h),fun h=>(by rw [hl] at h;cases h),fun h=>(by rw [hl] at h;cases h)⟩
 | true=>
  by_cases h1:c.circle
  ·exact⟨2,fun h=>by simp [hl] at h,fun _ _=>rfl,fun _ h=>absurd h1 h,fun _ h=>absurd h1 h,fun _ h=>absurd h1 h,fun _ h=>absurd h1 h⟩
  by_cases h2:c.noLat
  ·exact⟨3,fun h=>by simp [hl] at h,fun _ h=>absurd h h1,fun _ _ _=>rfl,fun _ _ h=>absurd h2 h,fun _ _ h=>absurd h2 h,fun _ _ h=>absurd h2 h⟩
  cases h3:rulesB c with
  | false=>exact⟨4,fun h=>by simp [hl] at h,fun _ h=>absurd h h1,fun _ _ h=>absurd h h2,fun _ _ _ _=>rfl,fun _ _ _ h=>by simp [h3] at h,fun _ _ _ h=>by simp [h3] at h⟩
  | true=>
   cases h4:grantsB c with
   | false=>exact⟨5,fun h=>by simp [hl] at h,fun _ h=>absurd h h1,fun _ _ h=>absurd h h2,fun _ _ _ h=>by simp [h3] at h,fun _ _ _ _ _=>rfl,fun _ _ _ _ h=>by simp [h4] at h⟩
   | true=>exact⟨0,fun h=>by simp [hl] at h,fun _ h=>absurd h h1,fun _ _ h=>absurd h h2,fun _ _ _ h=>by simp [h3] at h,fun _ _ _ _ h=>by simp [h4] at h,fun _ _ _ _ _=>rfl⟩
def StepOk (w0:World) (cv:Value) (g k:Nat) (F:Nat→Prop) (w w':World):Prop:=∃ F',LawI w0 cv g (k+1) F' w'∧Only F w w'∧∀ b,F' b→F b∨w.heap.size≤b
def StepT (w0:World) (cv:Value) (g k:Nat) (F:Nat→Prop) (w w':World) (t:TV):Prop:=∃ F' D' t' S' R' N',LawS w0 cv g (k+1) F' w' D' t' S' R' N'∧t'.dv=t.dv∧Only F w w'∧(∀ b,F' b→F b∨w.heap.size≤b)∧∀ b,t.dv.ownBlock=some b→w'.heap[b]?=w.heap[b]?
section
variable {w0 w w' w1 w3:World} {cv:Value} {g k:Nat} {F:Nat→Prop} {D:List DS} {t:TV} {S R N:List Value}
theorem StepOk.same (h:LawS w0 cv g k F w D t S R N) (hb:Below w.heap.size w w'):StepOk w0 cv g k F w w':=⟨F,⟨D,t,S,R,N,(h.frame hb).skip⟩,Only.of_below hb,fun _ h=>Or.inl h⟩
theorem StepOk.pre (hb:Below w.heap.size w w1) (h:StepOk w0 cv g k F w1 w'):StepOk w0 cv g k F w w':=by
 obtain⟨F',h1,h2,h3⟩:=h
 exact⟨F',h1,(Only.of_below hb).trans h2 (fun _ h=>Or.inl h),fun b hb'=>(h3 b hb').imp id (fun h=>Nat.le_trans hb.size h)⟩
theorem StepT.ok (h:StepT w0 cv g k F w w' t):StepOk w0 cv g k F w w':=by
 obtain⟨F',D',t',S',R',N',h1,_,h2,h3,_⟩:=h
 exact⟨F',⟨D',t',S',R',N',h1⟩,h2,h3⟩
theorem StepT.same (h:LawS w0 cv g k F w D t S R N) (hb:Below w.heap.size w w'):StepT w0 cv g k F w w' t:=⟨F,D,t,S,R,N,(h.frame hb).skip,rfl,Only.of_below hb,fun _ h=>Or.inl h,fun b hb'=>hb.block b (h.topLow .d b hb').2⟩
theorem StepT.pre (h:LawS w0 cv g k F w D t S R N) (hb:Below w.heap.size w w1) (h1:StepT w0 cv g k F w1 w' t):StepT w0 cv g k F w w' t:=by
 obtain⟨F',D',t',S',R',N',h1,h2,h3,h4,h5⟩:=h1
 exact⟨F',D',t',S',R',N',h1,h2,(Only.of_below hb).trans h3 (fun _ h=>Or.inl h),fun b hb'=>(h4 b hb').imp id (fun h=>Nat.le_trans hb.size h),fun b hb'=>(h5 b hb').trans (hb.block b (h.topLow .d b hb').2)⟩
theorem StepT.edit (h:LawS w0 cv g k F w D t S R N) {i:Nat} {s:DS} (hi:D[i]?=some s) (he:EditOk w0 w s k w'):StepT w0 cv g k F w w' t:=by
 obtain⟨s',h1,h2,h3,h4,h5⟩:=he
 obtain⟨F',e1,e2,e3,e4⟩:=h.edit hi h1 h2 h3 h4 h5
 exact⟨F',_,t,S,R,N,e1,rfl,e2,fun b hb=>(e3 b hb).imp id (fun h=>h.1),e4⟩
theorem LawS.fresh (h:LawS w0 cv g k F w D t S R N) {b:Nat} (hb:w.heap.size≤b):¬ F b∧(∀ (i:Nat) (v:Value),S[i]?=some v→v.ownBlock≠some b)∧(∀ (i:Nat) (v:Value),R[i]?=some v→v.ownBlock≠some b)∧∀ (i:Nat) (v:Value),N[i]?=some v→v.ownBlock≠some b:=by
 refine⟨fun hf=>by have:=(h.low b hf).2;omega,fun i v hv e=>?_,fun i v hv e=>?_,fun i v hv e=>?_⟩
 ·obtain⟨n,_,ho⟩:=h.ms.each i v hv;have:=(ho.lt e).2;omega
 ·obtain⟨n,_,ho⟩:=h.mr.each i v hv;have:=(ho.lt e).2;omega
 ·obtain⟨n,_,ho⟩:=h.mn.each i v hv;have:=(ho.lt e).2;omega
theorem StepT.spans (h:LawS w0 cv g k F w D t S R N) (hb:Below w.heap.size w w3) {lv v1 v2 sv':Value} {n:Nat} (hl:ListIs 94 69 3 s3V mark3 (fun x=>#[cv,t.dv,x,t.rv,t.nv]) w3 w' w0.heap.size g t.sv S lv n sv' v1 v2) (hn:n≤19000) (hlv:∀ b,lv.ownBlock=some b→w.heap.size≤b):StepT w0 cv g k F w w' t:=by
 obtain⟨F',e1,e2,e3,e4⟩:=(h.frame hb).skip.addS hl hn (by have:=h.ms.len;omega) (fun b hb'=>h.fresh (hlv b hb'))
 exact⟨F',D,_,_,R,N,e1,rfl,(Only.of_below hb).trans e2 (fun b hb'=>by
  rcases hb' with hb'|hb'
  ·exact Or.inl hb'
  ·exact Or.inr (hlv b hb')),fun b hb'=>(e3 b hb').imp id (fun h=>Nat.le_trans hb.size h),fun b hb'=>(e4 b hb').trans (hb.block b (h.topLow .d b hb').2)⟩
theorem StepT.records (h:LawS w0 cv g k F w D t S R N) (hb:Below w.heap.size w w3) {lv v1 v2 sv':Value} {n:Nat} (hl:ListIs 97 75 3 recV markR (fun x=>#[cv,t.dv,t.sv,x,t.nv]) w3 w' w0.heap.size g t.rv R lv n sv' v1 v2) (hn:n≤19000) (hlv:∀ b,lv.ownBlock=some b→w.heap.size≤b):StepT w0 cv g k F w w' t:=by
 obtain⟨F',e1,e2,e3,e4⟩:=(h.frame hb).skip.addR hl hn (by have:=h.mr.len;omega) (fun b hb'=>h.fresh (hlv b hb'))
 exact⟨F',D,_,S,_,N,e1,rfl,(Only.of_below hb).trans e2 (fun b hb'=>by
  rcases hb' with hb'|hb'
  ·exact Or.inl hb'
  ·exact Or.inr (hlv b hb')),fun b hb'=>(e3 b hb').imp id (fun h=>Nat.le_trans hb.size h),fun b hb'=>(e4 b hb').trans (hb.block b (h.topLow .d b hb').2)⟩
theorem StepT.notices (h:LawS w0 cv g k F w D t S R N) {i:Nat} {s s':DS} (hi:D[i]?=some s) (h1:DocI w0 w3 s' (k+1)) (h2:s'.pd=s.pd) (h3:s'.rd=s.rd) (h4:Only (fun b=>∃ a,dblk s a=some b) w w3) (h5:∀ a x,dblk s' a=some x→(∃ b,dblk s b=some x)∨w.heap.size≤x)
  {lv v1 v2 sv':Value} {n:Nat} (hl:ListIs 100 79 2 noV markN (fun x=>#[cv,t.dv,t.sv,t.rv,x]) w3 w' w0.heap.size g t.nv N lv n sv' v1 v2) (hn:n≤19000) (hlv:∀ b,lv.ownBlock=some b→w.heap.size≤b∧∀ a,dblk s' a≠some b):StepT w0 cv g k F w w' t:=by
 obtain⟨F3,c1,c2,c3,c4⟩:=h.edit hi h1 h2 h3 h4 h5
 obtain⟨F',e1,e2,e3,e4⟩:=c1.addN hl hn (by have:=h.mn.len;omega) (fun b hb'=>by
  obtain⟨f1,f2,f3,f4⟩:=h.fresh (hlv b hb').1
  refine⟨fun hf=>?_,f2,f3,f4⟩
  rcases c3 b hf with h'|⟨_,a,ha⟩
  ·exact f1 h'
  ·exact (hlv b hb').2 a ha)
 have hs3:=c2.size
 refine⟨F',_,_,S,R,_,e1,rfl,c2.trans e2 (fun b hb'=>?_),fun b hb'=>?_,fun b hb'=>(e4 b hb').trans (c4 b hb')⟩
 ·rcases hb' with hb'|hb'
  ·exact (c3 b hb').imp id (fun h=>h.1)
  ·exact Or.inr (hlv b hb').1
 ·rcases e3 b hb' with h'|h'
  ·exact (c3 b h').imp id (fun h=>h.1)
  ·exact Or.inr (Nat.le_trans hs3 h')
end
theorem OwnL.map {α β:Type} {e:TypeId} {sz:Nat} {f:α→List Value} {f':β→List Value} {w:World} {B:Nat} {v:Value} {l:List α} (h:OwnL e sz f w B v l) (m:α→β) (hm:∀ a,f' (m a)=f a):OwnL e sz f' w B v (l.map m):=by
 have hf:(l.map m).flatMap f'=l.flatMap f:=by
  rw [List.flatMap_map]
  congr 1
  funext a
  exact hm a
 unfold OwnL at *
 rw [hf,List.length_map]
 exact h
def spI (x:Sp):Int × Int × Int:=(x.kind,x.lo,x.hi)
theorem spI_V (x:Sp):s3V (spI x)=spV x:=rfl
theorem spanned_law {w0 w:World} {cv:Value} {g k:Nat} {F:Nat→Prop} {D:List DS} {t:TV} {S R N:List Value} (h:LawS w0 cv g k F w D t S R N) (hk:k≤1759218604441) (L:List (Int × Int × Int)) (vl kv:Value) (hvl:OwnL 94 3 s3V w w0.heap.size vl L) (hkv:SeqV 3 s3V w kv L) (hL:L.length≤10000) (hlv:∀ b,vl.ownBlock=some b→¬ F b) :
  Calls Tryz.prog 92 #[.pointer (some ⟨g,0,none⟩),vl,.int .i64 0,kv,.int .i64 0] w fun r w'=>r=.returned (.bool true)∧∃ sv' v1 v2,ListIs 94 69 3 s3V mark3 (fun x=>#[cv,t.dv,x,t.rv,t.nv]) w w' w0.heap.size g t.sv S vl L.length sv' v1 v2:=by
 have hSn:S.length≤5300000000000:=by have:=h.ms.len;omega
 have hsg:∀ b,t.sv.ownBlock=some b→b≠g:=fun b hb e=>by have:=h.top .s .g b hb (by rw [e];rfl);cases this
 have hsF:∀ b,t.sv.ownBlock=some b→F b:=fun b hb=>h.inF (y:=.s) hb
 rcases hvl.2 with⟨h1,h2⟩|⟨gl,cap,cur,h1,_⟩
 ·subst h1
  obtain rfl:L=[]:=List.eq_nil_of_length_eq_zero h2
  obtain⟨kao,kcap,kb,rfl,_,_⟩:=hkv
  exact spanned_nil g cv t.dv t.sv t.rv t.nv S kao kcap 0 w w0.heap.size h.law h.ms.lst h.old.size hSn hsg
 ·subst h1
  have hgl:¬ F gl:=hlv gl rfl
  exact spanned_some g gl cap cv t.dv t.sv t.rv t.nv S L kv w w0.heap.size h.law h.ms.lst hvl hkv hL hSn (fun e=>hgl (by rw [← e];exact h.inF (y:=.g) rfl)) (fun b hb=>⟨fun e=>hgl (by rw [← e];exact hsF b hb),hsg b hb⟩)
section
variable {w0 w:World} {cv:Value} {g k:Nat} {F:Nat→Prop} {D:List DS} {t:TV} {S R N:List Value}
theorem spans_bad (h:LawS w0 cv g k F w D t S R N) (hk:k≤1759218604441) (code:Int) {w3:World} (hb:Below w.heap.size w w3):Calls Tryz.prog 92 #[.pointer (some ⟨g,0,none⟩),.slice none 0 0,.int .i64 code,.slice none 0 0,.int .i64 code] w3 fun r w'=>r=.returned (.bool true)∧StepT w0 cv g k F w w' t:=by
 have h3:=h.frame hb
 refine (spanned_nil g cv t.dv t.sv t.rv t.nv S none 0 code w3 w0.heap.size h3.law h3.ms.lst h3.old.size (by have:=h.ms.len;omega) (fun b hb' e=>by have:=h.top .s .g b hb' (by rw [e];rfl);cases this)).mono ?_
 rintro e w' ⟨rfl,sv',v1,v2,hl⟩
 exact⟨rfl,StepT.spans h hb hl (by omega) (fun b hb'=>by cases hb')⟩
theorem spans_good (h:LawS w0 cv g k F w D t S R N) (hk:k≤1759218604441) {L:List Sp} (hL:L.length≤10000) {w3:World} {vl kv:Value} (hb:Below w.heap.size w w3) (h1:OwnL 94 3 spV w3 w.heap.size vl L) (h2:OwnL 94 3 spV w3 w.heap.size kv L):Calls Tryz.prog 92 #[.pointer (some ⟨g,0,none⟩),vl,.int .i64 0,kv,.int .i64 0] w3 fun r w'=>r=.returned (.bool true)∧StepT w0 cv g k F w w' t:=by
 have h3:=h.frame hb
 have hfr:∀ b,vl.ownBlock=some b→w.heap.size≤b:=fun b hb'=>(h1.lt hb').1
 refine (spanned_law h3 hk (L.map spI) vl kv ((h1.map spI spI_V).mono h.old.size) ((h2.map spI spI_V).seqV s3V_len) (by rw [List.length_map];exact hL) (fun b hb'=>(h.fresh (hfr b hb')).1)).mono ?_
 rintro e w' ⟨rfl,sv',v1,v2,hl⟩
 exact⟨rfl,StepT.spans h hb hl (by rw [List.length_map];omega) hfr⟩
theorem step_spans (h:LawS w0 cv g k F w D t S R N) (hk:k≤1759218604441) {i:Nat} {s:DS} (hi:D[i]?=some s) (o:OpR) (hko:o.kind=10) :
  Calls Tryz.prog 43 #[.pointer (some ⟨g,0,none⟩),.agg (pairC s.pd s.rd),.agg o.cells] w fun e w'=>e=.returned (.bool true)∧StepT w0 cv g k F w w' t:=by
 have hd:=h.docs s (List.mem_of_getElem? hi)
 have hok:=hd.rdocOk (by omega)
 obtain⟨_,_,_,_,hn,_,_⟩:=labels_of hd.right.labels
 cases hlv:okL s.c.labels o.b
 ·refine onDoc_spans g s.pd s.rd o 6 (fun w'' vl=>vl=.slice none 0 0) (fun w3 vl kv=>vl=.slice none 0 0∧kv=.slice none 0 0∧Below w.heap.size w w3) _ w hko (fun w' hb=>?_) (fun w'' vl hb hvl=>?_) (fun w3 vl kv ⟨h1,h2,h3⟩=>?_)
  ·exact (dcSpans_no s.pd _ _ _ _ _ _ _ o.b w' (hd.box.below hb hd.box.lt) (by rw [hd.okL];exact hlv)).mono fun e w'' ⟨h1,h2⟩=>⟨none,0,0,h1,rfl,h2⟩
  ·exact (rspans_no s.c s.v s.rows s.rrv s.rav s.rd o.b w'' (hd.below hb).ref.read hlv).mono fun e w3 ⟨h1,h2⟩=>⟨none,0,0,h1,hvl,rfl,hb.trans (h2.mono hb.size)⟩
  ·subst h1;subst h2
   exact spans_bad h hk 6 h3
 ·obtain⟨lv,hlv1,hlv2⟩:=okL_nat' hn hlv
  have hsz:=viewT_len s.c s.row lv hd.rowGood
  have hLn:(spansTo (viewT (placesR s.c s.row lv)) (viewT (placesR s.c s.row lv)).size).length≤10000:=Nat.le_trans (spansTo_length _ _) (by omega)
  refine onDoc_spans g s.pd s.rd o 0 (fun w'' vl=>OwnL 94 3 spV w'' w.heap.size vl (spansTo (viewT (placesR s.c s.row lv)) (viewT (placesR s.c s.row lv)).size)) (fun w3 vl kv=>Below w.heap.size w w3∧OwnL 94 3 spV w3 w.heap.size vl (spansTo (viewT (placesR s.c s.row lv)) (viewT (placesR s.c s.row lv)).size)∧OwnL 94 3 spV w3 w.heap.size kv (spansTo (viewT (placesR s.c s.row lv)) (viewT (placesR s.c s.row lv)).size)) _ w hko (fun w' hb=>?_) (fun w'' vl hb hvl=>?_) (fun w3 vl kv ⟨h1,h2,h3⟩=>spans_good h hk hLn h1 h2 h3)
  ·have hd':=hd.below hb
   rw [hlv1]
   refine (dcSpans_ok s.c s.row s.pd _ _ s.pv.rv s.pv.pv _ _ _ w0.heap.size lv w' hd'.box hd'.rules hd'.cells rfl rfl hd.right hd.rowGood hlv2).mono ?_
   rintro e w'' ⟨vl,rfl,hvl,hb2⟩
   obtain⟨ao,cap,hv⟩:=hvl.shape
   exact⟨ao,_,cap,by rw [hv],by rw [← hv];exact hvl.mono hb.size,hb2⟩
  ·rw [hlv1]
   refine (rspans_ok s.c s.v s.rows s.rrv s.rav s.rd lv w'' (hd.below hb).ref.read hok (by rw [← hlv1];exact hlv)).mono ?_
   rintro e w3 ⟨kv,rfl,hkv,hb2⟩
   obtain⟨ao,cap,hv⟩:=hkv.shape
   exact⟨ao,_,cap,by rw [hv],hb.trans (hb2.mono hb.size),hvl.below hb2,by rw [← hv];exact hkv.mono hb.size⟩
theorem step_find (h:LawS w0 cv g k F w D t S R N) (hk:k≤1759218604441) {i:Nat} {s:DS} (hi:D[i]?=some s) (o:OpR) (hko:o.kind=11) (hos:o.s.size≤maxLen) :
  Calls Tryz.prog 43 #[.pointer (some ⟨g,0,none⟩),.agg (pairC s.pd s.rd),.agg o.cells] w fun e w'=>e=.returned (.bool true)∧StepT w0 cv g k F w w' t:=by
 have hd:=h.docs s (List.mem_of_getElem? hi)
 have hok:=hd.rdocOk (by omega)
 obtain⟨_,_,_,_,hn,_,_⟩:=labels_of hd.right.labels
 cases hlv:okL s.c.labels o.b
 ·refine onDoc_find g s.pd s.rd o 6 (fun w'' vl=>vl=.slice none 0 0) (fun w3 vl kv=>vl=.slice none 0 0∧kv=.slice none 0 0∧Below w.heap.size w w3) _ w hko (fun w' hb=>?_) (fun w'' vl hb hvl=>?_) (fun w3 vl kv ⟨h1,h2,h3⟩=>?_)
  ·exact (dcFind_no s.pd _ _ _ _ _ _ _ o.b o.s w' (hd.box.below hb hd.box.lt) (by rw [hd.okL];exact hlv)).mono fun e w'' ⟨h1,h2⟩=>⟨none,0,0,h1,rfl,h2⟩
  ·exact (rfind_no1 s.c s.v s.rows s.rrv s.rav s.rd o.b o.s w'' (hd.below hb).ref.read hlv).mono fun e w3 ⟨h1,h2⟩=>⟨none,0,0,h1,hvl,rfl,hb.trans (h2.mono hb.size)⟩
  ·subst h1;subst h2
   exact spans_bad h hk 6 h3
 ·obtain⟨lv,hlv1,hlv2⟩:=okL_nat' hn hlv
  have hlv':okL s.c.labels (lv:Int)=true:=by rw [← hlv1];exact hlv
  cases hp:validB o.s
  ·refine onDoc_find g s.pd s.rd o 8 (fun w'' vl=>vl=.slice none 0 0) (fun w3 vl kv=>vl=.slice none 0 0∧kv=.slice none 0 0∧Below w.heap.size w w3) _ w hko (fun w' hb=>?_) (fun w'' vl hb hvl=>?_) (fun w3 vl kv ⟨h1,h2,h3⟩=>?_)
   ·rw [hlv1]
    exact (dcFind_text s.pd _ _ _ _ _ _ _ lv o.s w' (hd.box.below hb hd.box.lt) hlv2 hp hos).mono fun e w'' ⟨h1,h2⟩=>⟨none,0,0,h1,rfl,h2⟩
   ·rw [hlv1]
    exact (rfind_no2 s.c s.v s.rows s.rrv s.rav s.rd lv o.s w'' (hd.below hb).ref.read hok hlv' hp hos).mono fun e w3 ⟨h1,h2⟩=>⟨none,0,0,h1,hvl,rfl,hb.trans (h2.mono hb.size)⟩
   ·subst h1;subst h2
    exact spans_bad h hk 8 h3
  ·have hsz:=viewT_len s.c s.row lv hd.rowGood
   have hLn:(findTo (viewT (placesR s.c s.row lv)) o.s (spansTo (viewT (placesR s.c s.row lv)) (viewT (placesR s.c s.row lv)).size) (spansTo (viewT (placesR s.c s.row lv)) (viewT (placesR s.c s.row lv)).size).length).length≤10000:=Nat.le_trans (findTo_length _ _ _ _) (Nat.le_trans (spansTo_length _ _) (by omega))
   refine onDoc_find g s.pd s.rd o 0 (fun w'' vl=>OwnL 94 3 spV w'' w.heap.size vl (findTo (viewT (placesR s.c s.row lv)) o.s (spansTo (viewT (placesR s.c s.row lv)) (viewT (placesR s.c s.row lv)).size) (spansTo (viewT (placesR s.c s.row lv)) (viewT (placesR s.c s.row lv)).size).length)) (fun w3 vl kv=>Below w.heap.size w w3∧OwnL 94 3 spV w3 w.heap.size vl (findTo (viewT (placesR s.c s.row lv)) o.s (spansTo (viewT (placesR s.c s.row lv)) (viewT (placesR s.c s.row lv)).size) (spansTo (viewT (placesR s.c s.row lv)) (viewT (placesR s.c s.row lv)).size).length)∧OwnL 94 3 spV w3 w.heap.size kv (findTo (viewT (placesR s.c s.row lv)) o.s (spansTo (viewT (placesR s.c s.row lv)) (viewT (placesR s.c s.row lv)).size) (spansTo (viewT (placesR s.c s.row lv)) (viewT (placesR s.c s.row lv)).size).length)) _ w hko (fun w' hb=>?_) (fun w'' vl hb hvl=>?_) (fun w3 vl kv ⟨h1,h2,h3⟩=>spans_good h hk hLn h1 h2 h3)
   ·have hd':=hd.below hb
    rw [hlv1]
    refine (dcFind_ok s.c s.row s.pd _ _ s.pv.rv s.pv.pv _ _ _ w0.heap.size lv o.s w' hd'.box hd'.rules hd'.cells rfl rfl hd.right hd.rowGood hlv2 hp).mono ?_
    rintro e w'' ⟨vl,rfl,hvl,hb2⟩
    obtain⟨ao,cap,hv⟩:=hvl.shape
    exact⟨ao,_,cap,by rw [hv],by rw [← hv];exact hvl.mono hb.size,hb2⟩
   ·rw [hlv1]
    refine (rfind_ok s.c s.v s.rows s.rrv s.rav s.rd lv o.s w'' (hd.below hb).ref.read hok hlv' hp hos).mono ?_
    rintro e w3 ⟨kv,rfl,hkv,hb2⟩
    obtain⟨ao,cap,hv⟩:=hkv.shape
    exact⟨ao,_,cap,by rw [hv],hb.trans (hb2.mono hb.size),hvl.below hb2,by rw [← hv,findTo_all];exact hkv.mono hb.size⟩
theorem step_log (h:LawS w0 cv g k F w D t S R N) (hk:k≤1759218604441) {i:Nat} {s:DS} (hi:D[i]?=some s) (o:OpR) (hko:o.kind=15) :
  Calls Tryz.prog 43 #[.pointer (some ⟨g,0,none⟩),.agg (pairC s.pd s.rd),.agg o.cells] w fun e w'=>e=.returned (.bool true)∧StepT w0 cv g k F w w' t:=by
 refine onDoc_log g s.pd s.rd o (fun w'=>StepT w0 cv g k F w w' t) w hko (fun w1 hb1=>?_)
 have h1:=h.frame hb1
 have hd:=h1.docs s (List.mem_of_getElem? hi)
 have hok:=hd.rdocOk (by omega)
 obtain⟨_,_,_,_,hn,_,_⟩:=labels_of hd.right.labels
 have hRn:R.length≤5300000000000:=by have:=h.mr.len;omega
 have hrg:∀ b,t.rv.ownBlock=some b→b≠g:=fun b hb e=>by have:=h.top .r .g b hb (by rw [e];rfl);cases this
 have fin:∀ (L:List Rec) (code:Int),L.length≤8 →
   (∀ w',Below w1.heap.size w1 w'→Calls Tryz.prog 32 #[.pointer (some ⟨s.pd,0,none⟩),.int .i64 o.b] w' fun e w''=>∃ vl,e=.returned (.tuple #[vl,.int .i64 code])∧OwnL 97 3 recV w'' w'.heap.size vl L∧Below w'.heap.size w' w''∧(code=0∨vl=.slice none 0 0)) →
   (∀ w',Below w1.heap.size w1 w'→Calls Tryz.prog 139 #[.pointer (some ⟨s.rd,0,none⟩),.int .i64 o.b] w' fun e w''=>∃ vl,e=.returned (.tuple #[vl,.int .i64 code])∧OwnL 97 3 recV w'' w'.heap.size vl L∧Below w'.heap.size w' w'') →
   Calls Tryz.prog 95 #[.pointer (some ⟨g,0,none⟩),.agg (pairC s.pd s.rd),.int .i64 o.b] w1 fun e w'=>e=.returned (.bool true)∧StepT w0 cv g k F w w' t:=fun L code hL hP hQ=>by
  refine (logged_any g s.pd s.rd o.b code L cv t.dv t.sv t.rv t.nv R w0.heap.size w1 (fun w'' vl=>OwnL 97 3 recV w'' w1.heap.size vl L∧Below w1.heap.size w1 w''∧(code=0∨vl=.slice none 0 0)) (fun w3 vl kv=>OwnL 97 3 recV w3 w1.heap.size vl L∧OwnL 97 3 recV w3 w1.heap.size kv L∧Below w1.heap.size w1 w3∧(code=0∨vl=.slice none 0 0)) (fun w' hb=>?_) (fun w'' vl ⟨hv,hb,hz⟩=>?_) (fun w3 vl kv ⟨hv,hkv,hb,hz⟩=>?_) (by omega) hRn hrg).mono ?_
  ·refine (hP w' hb).mono ?_
   rintro e w'' ⟨vl,rfl,hv,hb2,hz⟩
   obtain⟨ao,cap,he⟩:=hv.shape
   subst he
   exact⟨ao,cap,rfl,⟨hv.mono hb.size,hb.trans (hb2.mono hb.size),hz⟩,fun j _ hj=>hb2.block j hj⟩
  ·refine (hQ w'' hb).mono ?_
   rintro e w3 ⟨kv,rfl,hkv,hb2⟩
   obtain⟨ao,cap,he⟩:=hkv.shape
   subst he
   exact⟨ao,cap,rfl,hv.below hb2,hkv.mono hb.size,hb.trans (hb2.mono hb.size),hz⟩
  ·have h3:=h1.frame hb
   refine⟨h3.law,h3.mr.lst,hv.mono h1.old.size,hkv.seqV recV_len,fun b hb'=>⟨fun e=>?_,fun e=>?_⟩,h3.old.size,hz⟩
   ·have:=(hv.lt hb').1;have:=lt_of_row h1.law;omega
   ·have:=(hv.lt hb').1;have:=(h1.mr.lst.lt e).2;omega
  ·rintro e w' ⟨rfl,w3,vl,kv,sv',v1,v2,⟨hv,hkv,hb,hz⟩,hl⟩
   exact⟨rfl,StepT.pre h hb1 (StepT.records h1 hb hl (by omega) (fun b hb'=>(hv.lt hb').1))⟩
 cases hlv:okL s.c.labels o.b
 ·exact fin [] 6 (by simp) (fun w' hb=>(dcLog_no s.pd _ _ _ _ _ _ _ o.b w' (hd.box.below hb hd.box.lt) (by rw [hd.okL];exact hlv)).mono fun e w'' ⟨e1,e2⟩=>⟨_,e1,OwnL.nil _ _ _ _ _,e2,Or.inr rfl⟩) (fun w' hb=>(rlog_no s.c s.v s.rrv s.rav s.rd o.b w' (hd.below hb).ref.box hlv).mono fun e w'' ⟨e1,e2⟩=>⟨_,e1,OwnL.nil _ _ _ _ _,e2⟩)
 ·obtain⟨lv,hlv1,hlv2⟩:=okL_nat' hn hlv
  refine fin (logOf s.c s.acts lv) 0 (hd.lok lv hlv2) (fun w' hb=>?_) (fun w' hb=>?_)
  ·rw [hlv1]
   exact (dcLog_ok (hd.below hb).own hd.n6 lv hlv2 (hd.lok lv hlv2)).mono fun e w'' ⟨vl,e1,e2,e3⟩=>⟨vl,e1,e2,e3,Or.inl rfl⟩
  ·rw [hlv1]
   exact rlog_ok w0 w' s.rd s.c s.v s.rows s.acts s.rrv s.rav lv (hd.below hb).ref hok (by rw [← hlv1];exact hlv) hd.acts.2 (by have:=hd.acts.1;omega)
theorem poll_ver {c:Cfg} {acts:List RA} {lv:Nat} (i:Nat):verOf c (acts++[⟨5,lv,0,0⟩]) i=verOf c acts i:=by rw [verOf_snoc];simp [countB]
theorem poll_log {c:Cfg} {acts:List RA} {lv:Nat} (i:Nat):logOf c (acts++[⟨5,lv,0,0⟩]) i=logOf c acts i:=by rw [logOf_snoc];simp
theorem poll_wait {c:Cfg} {acts:List RA} {lv:Nat} (i:Nat):waitOf c (acts++[⟨5,lv,0,0⟩]) i=updF (waitOf c acts) lv [] i:=by
 rw [waitOf_snoc]
 unfold waitS clearB countB
 by_cases h:i=lv
 ·subst h;rw [updF_same];simp
 ·rw [updF_other _ _ h]
  have h2:((lv:Int) == (i:Int))=false:=by rw [beq_eq_false_iff_ne];omega
  simp [h2]
structure PollIs (w0 w w3:World) (s:DS) (k lv:Nat) (s':DS) (vl kv:Value):Prop where
 doc:DocI w0 w3 s' (k+1)
 pd:s'.pd=s.pd
 rd:s'.rd=s.rd
 only:Only (fun b=>∃ a,dblk s a=some b) w w3
 new:∀ a x,dblk s' a=some x→(∃ b,dblk s b=some x)∨w.heap.size≤x
 own:OwnL 100 2 noV w3 w.heap.size vl (waitOf s.c s.acts lv)
 ref:OwnL 100 2 noV w3 w.heap.size kv (waitOf s.c s.acts lv)
 far:∀ b,vl.ownBlock=some b→∀ a,dblk s' a≠some b
theorem step_poll (h:LawS w0 cv g k F w D t S R N) (hk:k≤1759218604441) {i:Nat} {s:DS} (hi:D[i]?=some s) (o:OpR) (hko:o.kind=17) :
  Calls Tryz.prog 43 #[.pointer (some ⟨g,0,none⟩),.agg (pairC s.pd s.rd),.agg o.cells] w fun e w'=>e=.returned (.bool true)∧StepT w0 cv g k F w w' t:=by
 refine onDoc_poll g s.pd s.rd o (fun w'=>StepT w0 cv g k F w w' t) w hko (fun w1 hb1=>?_)
 have h1:=h.frame hb1
 have hs:=List.mem_of_getElem? hi
 have hd:=h1.docs s hs
 have hok:=hd.rdocOk (by omega)
 obtain⟨_,_,_,_,hn,_,_⟩:=labels_of hd.right.labels
 have hNn:N.length≤5300000000000:=by have:=h.mn.len;omega
 have hng:∀ b,t.nv.ownBlock=some b→b≠g:=fun b hb e=>by have:=h.top .n .g b hb (by rw [e];rfl);cases this
 cases hlv:okL s.c.labels o.b
 ·refine (told_any g s.pd s.rd o.b 6 [] cv t.dv t.sv t.rv t.nv N w0.heap.size w1 (fun w'' vl=>vl=.slice none 0 0∧Below w1.heap.size w1 w'') (fun w3 vl kv=>vl=.slice none 0 0∧kv=.slice none 0 0∧Below w1.heap.size w1 w3) (fun w' hb=>?_) (fun w'' vl ⟨hv,hb⟩=>?_) (fun w3 vl kv ⟨hv,hkv,hb⟩=>?_) (by simp) hNn hng).mono ?_
  ·exact (dcPoll_no s.pd _ _ _ _ _ _ _ o.b w' (hd.box.below hb hd.box.lt) (by rw [hd.okL];exact hlv)).mono fun e w'' ⟨e1,e2⟩=>⟨none,0,e1,⟨rfl,hb.trans (e2.mono hb.size)⟩,fun j _ hj=>e2.block j hj⟩
  ·exact (rpoll_no s.c s.v s.rrv s.rav s.rd o.b w'' (hd.below hb).ref.box hlv).mono fun e w3 ⟨e1,e2⟩=>⟨none,0,e1,hv,rfl,hb.trans (e2.mono hb.size)⟩
  ·subst hv;subst hkv
   have h3:=h1.frame hb
   exact⟨h3.law,h3.mn.lst,OwnL.nil _ _ _ _ _,(OwnL.nil 100 2 noV w3 w0.heap.size).seqV noV_len,fun b hb'=>(by cases hb'),h3.old.size,Or.inr rfl⟩
  ·rintro e w' ⟨rfl,w3,vl,kv,sv',v1,v2,⟨rfl,rfl,hb⟩,hl⟩
   refine⟨rfl,StepT.pre h hb1 (StepT.notices h1 hi ((hd.below hb).mono (Nat.le_succ k)) rfl rfl (Only.of_below hb) (fun a x hx=>Or.inl ⟨a,hx⟩) hl (by simp) (fun b hb'=>(by cases hb')))⟩
 ·obtain⟨lv,hlv1,hlv2⟩:=okL_nat' hn hlv
  have hwl:=(hd.wok lv hlv2).len
  refine (told_any g s.pd s.rd o.b 0 (waitOf s.c s.acts lv) cv t.dv t.sv t.rv t.nv N w0.heap.size w1 (fun w'' vl=>∃ w' p',Below w1.heap.size w1 w'∧PDocO w0.heap.size w'' s.pd s.c s.row (ownC s.row) (logOf s.c s.acts) (verOf s.c s.acts) (updF (waitOf s.c s.acts) lv []) p'∧PStep s.c.n s.pd s.pv w' p' w''∧OwnL 100 2 noV w'' w'.heap.size vl (waitOf s.c s.acts lv)∧∀ a b,pblk s.c.n s.pd p' a=some b→vl.ownBlock=some b→False) (fun w3 vl kv=>∃ s',PollIs w0 w1 w3 s k lv s' vl kv) (fun w' hb=>?_) (fun w'' vl ⟨w',p',hb,hpd,hps,hv,hap⟩=>?_) (fun w3 vl kv ⟨s',hp⟩=>?_) (by omega) hNn hng).mono ?_
  ·rw [hlv1]
   refine (dcPoll_ok (hd.below hb).own hd.n6 lv hlv2 hwl).mono ?_
   rintro e w'' ⟨vl,p',rfl,hv,hpd,hps,hap⟩
   obtain⟨ao,cap,he⟩:=hv.shape
   subst he
   exact⟨ao,cap,rfl,⟨w',p',hb,hpd,hps,hv,hap⟩,fun j hj1 hj2=>hps.1.block j hj2 (fun ⟨a,ha⟩=>by have:=(hd.own.low a j ha).2;omega)⟩
  ·rw [hlv1]
   have hd':=hd.below hb
   have hs1:=hb.size
   have hs2:=hps.1.size
   have hra:∀ a,a ∈ s.acts++[⟨5,(lv:Int),0,0⟩]→RAOk s.c a:=fun a ha=>by
    simp only [List.mem_append,List.mem_singleton] at ha
    rcases ha with ha|rfl
    ·exact hd.acts.2 a ha
    ·exact fun h5=>absurd rfl h5
   refine (rpoll_ok w0 w'' s.rd s.c s.v s.rows s.acts s.rrv s.rav lv (hd'.refAt hps) hok (by rw [← hlv1];exact hlv) hd.acts.2 (by have:=hd.acts.1;omega)).mono ?_
   rintro e w3 ⟨kv,av',rfl,hkv,hr1,hr3,hr4,hr5⟩
   obtain⟨ao,cap,he⟩:=hkv.shape
   subst he
   have hnotref:∀ b,vl.ownBlock=some b→¬ ∃ p,blkOf' s.rd s.rrv s.rav s.rows p=some b:=fun b hb' ⟨p,hp⟩=>by have:=(hv.lt hb').1;have:=(hd.ref.parts.low p b hp).2;omega
   have hv3:OwnL 100 2 noV w3 w1.heap.size vl (waitOf s.c s.acts lv):=(hv.mono hs1).only hr3 hnotref
   obtain⟨e1,e4,e5⟩:=EditOk.both' hd hb hpd hps hr1 hr3 hr4 rfl rfl (fun i _=>poll_log i) (fun i _=>poll_ver i) (fun i _=>poll_wait i) (by simp only [List.length_append,List.length_singleton];have:=hd.acts.1;omega) hra (fun i hi'=>by
    by_cases hil:i=lv
    ·subst hil;rw [updF_same];exact WOk.nil
    ·rw [updF_other _ _ hil];exact hd.wok i hi') hd.lok (hd.good.mono (Nat.le_succ k)) hd.no35
   refine⟨ao,cap,rfl,_,e1,rfl,rfl,e4,e5,hv3,hkv.mono (by omega),fun b hb' a ha=>?_⟩
   cases a with
   | own a=>exact hap a b ha hb'
   | ref p=>
    rcases hr4 p b ha with h'|h'
    ·exact hnotref b hb' h'
    ·have:=(hv.lt hb').2;omega
  ·obtain⟨F3,c1,c2,c3,c4⟩:=h1.edit hi hp.doc hp.pd hp.rd hp.only hp.new
   refine⟨c1.law,c1.mn.lst,hp.own.mono h1.old.size,hp.ref.seqV noV_len,fun b hb'=>⟨fun e=>?_,fun e=>?_⟩,c1.old.size,Or.inl rfl⟩
   ·have:=(hp.own.lt hb').1;have:=lt_of_row h1.law;omega
   ·have:=(hp.own.lt hb').1;have:=(h1.mn.lst.lt e).2;omega
  ·rintro e w' ⟨rfl,w3,vl,kv,sv',v1,v2,⟨s',hp⟩,hl⟩
   exact⟨rfl,StepT.pre h hb1 (StepT.notices h1 hi hp.doc hp.pd hp.rd hp.only hp.new hl (by omega) (fun b hb'=>⟨(hp.own.lt hb').1,hp.far b hb'⟩))⟩
end
end Go.Proofs.YtgigkiocdiffjaaGreat
namespace Go.Proofs.YtgigkiocdiffjaaGreat
open Go.RowKit Veil
theorem doc_version (w0 w:World) (s:DS) (k:Nat) (o:OpR) (h:DocI w0 w s k) (hk:k≤4000000000000) (hko:o.kind=16) :
  Calls Tryz.prog 97 #[.agg (pairC s.pd s.rd),.agg o.cells] w fun e w'=>e=.returned (.bool true)∧Below w.heap.size w w':=by
 have hok:=h.rdocOk (Nat.le_trans hk (by decide))
 obtain⟨_,_,_,_,hn,_,_⟩:=labels_of h.right.labels
 cases hlv:okL s.c.labels o.b
 ·exact looked_version s.pd s.rd o 0 6 w hko (fun w' hb=>dcVersion_no s.pd _ _ _ _ _ _ _ o.b w' (h.box.below hb h.box.lt) (by rw [h.okL];exact hlv)) (fun w' hb=>rversion_no s.c s.v s.rrv s.rav s.rd o.b w' (h.below hb).ref.box hlv)
 ·obtain⟨lv,hlv1,hlv2⟩:=okL_nat' hn hlv
  refine looked_version s.pd s.rd o (verOf s.c s.acts lv:Nat) 0 w hko (fun w' hb=>?_) (fun w' hb=>?_)
  ·rw [hlv1]
   exact dcVersion_ok (h.below hb).own h.n6 lv hlv2
  ·rw [hlv1]
   exact rversion_ok w0 w' s.rd s.c s.v s.rows s.acts s.rrv s.rav lv (h.below hb).ref hok (by rw [← hlv1];exact hlv) h.acts.2 (Nat.le_trans h.acts.1 hk)
section
variable {w0 w:World} {cv:Value} {g k:Nat} {F:Nat→Prop} {D:List DS} {t:TV} {S R N:List Value}
theorem step_pair (h:LawS w0 cv g k F w D t S R N) (hk:k≤4000000000000) (o:OpR) (h7:7≤o.kind) (h17:o.kind≤17) (ha:-9223372036854775808≤o.a∧o.a≤9223372036854775807)
  (hE:∀ (i:Nat) (s:DS),D[i]?=some s→∀ w1,Below w.heap.size w w1→LawS w0 cv g k F w1 D t S R N→Calls Tryz.prog 43 #[.pointer (some ⟨g,0,none⟩),.agg (pairC s.pd s.rd),.agg o.cells] w1 fun e w''=>e=.returned (.bool true)∧StepT w0 cv g k F w1 w'' t) :
  Calls Tryz.prog 18 #[.pointer (some ⟨g,0,none⟩),.agg o.cells] w fun e w'=>e=.returned (.bool true)∧StepOk w0 cv g k F w w':=by
 have hd1:w.cell? ⟨g,1,none⟩=some t.dv:=by rw [cell_of_row _ _ _ _ _ _ h.law];rfl
 by_cases hz:D=[]
 ·subst hz
  obtain⟨ao,cap,hv⟩:=h.ds.shape
  have hd1':w.cell? ⟨g,1,none⟩=some (.slice ao 0 cap):=by rw [hd1,hv];rfl
  exact (step_none g o cap ao w h7 h17 hd1').mono fun e w' ⟨h1,h2⟩=>⟨h1,StepOk.same h h2⟩
 ·have hl:0<D.length:=List.length_pos_iff.2 hz
  obtain⟨db,dcap,hv,hdb0,hdb⟩:=h.ds.form (by rw [List.length_map];exact hl)
  rw [List.length_map] at hv
  obtain⟨i,hi,hil⟩:=pickI_lt (c:=o.a) (n:=D.length) ha.1 hl
  have hgi:D[i]?=some D[i]:=List.getElem?_eq_getElem hil
  have hmi:(D.map fun s=>(s.pd,s.rd))[i]?=some (D[i].pd,D[i].rd):=by rw [List.getElem?_map,hgi];rfl
  have hob:t.dv.ownBlock=some db:=by rw [hv];rfl
  have c0:=h.ds.cell (show ∀ a,(pairV a).length=2 from fun _=>rfl) hob hmi (j:=0) (by omega)
  have c1:=h.ds.cell (show ∀ a,(pairV a).length=2 from fun _=>rfl) hob hmi (j:=1) (by omega)
  refine step_doc g db D.length dcap i D[i].pd D[i].rd o (StepOk w0 cv g k F w) w h7 h17 ha (by have:=h.len;omega) hi hil (by rw [hd1,hv]) c0 c1 (fun w1 hb1=>?_)
  refine (hE i D[i] hgi w1 hb1 (h.frame hb1)).mono ?_
  rintro e w'' ⟨rfl,ht⟩
  refine⟨rfl,ht.ok.pre hb1,?_,fun j hj hj1=>?_⟩
  ·obtain⟨F',D',t',S',R',N',e1,e2,_⟩:=ht
   have q1:w''.cell? ⟨g,1,none⟩=some t'.dv:=by rw [cell_of_row _ _ _ _ _ _ e1.law];rfl
   have q2:w1.cell? ⟨g,1,none⟩=some t.dv:=by rw [cell_of_row _ _ _ _ _ _ (h.frame hb1).law];rfl
   rw [q1,q2,e2]
  ·obtain⟨F',D',t',S',R',N',e1,e2,e3,e4,e5⟩:=ht
   rcases hj with rfl|hj
   ·exact e5 _ hob
   ·exact e3.block j hj1 (fun hf=>by have:=(h.low j hf).2;omega)
theorem law_looks (h:LawS w0 cv g k F w D t S R N) (hk:k≤1759218604441):Calls Tryz.prog 19 #[.pointer (some ⟨g,0,none⟩)] w fun e w''=>e=.returned (.bool true)∧Below w.heap.size w w'':=by
 have h1:=h.ms.len
 have h2:=h.mr.len
 have h3:=h.mn.len
 refine looks_lists g cv t.dv t.sv t.rv t.nv S R N w h.law (h.ms.lst.seqV (fun _=>rfl)) (h.mr.lst.seqV (fun _=>rfl)) (h.mn.lst.seqV (fun _=>rfl)) (by omega) (by omega) (by omega) (fun i v hv=>?_) (fun i v hv=>?_) (fun i v hv=>?_)
 ·obtain⟨n,hn,ho⟩:=h.ms.each i v hv;exact⟨n,hn,ho.seqV s3V_len⟩
 ·obtain⟨n,hn,ho⟩:=h.mr.each i v hv;exact⟨n,hn,ho.seqV recV_len⟩
 ·obtain⟨n,hn,ho⟩:=h.mn.each i v hv;exact⟨n,hn,ho.seqV noV_len⟩
end
def OpBound (o:OpR):Prop:=o.s.size≤140737488355328∧-9223372036854775808≤o.a∧o.a≤9223372036854775807
theorem all_inv {co:Option Addr} {cn cap:Nat} {cs:Nat→Cfg} {vs:Nat→CfgV} {n:Nat} {ops:Nat→OpR} {w:World} {Lp Lh:List Int} (hcs:CfgsAt w co cn cs vs) (hcn:cn<2 ^ 57) (hn:n≤1759218604441) (hL:∀ k,Lp.contains k=true→1≤k∧k≤17)
  (ha:∀ i,i<n→OpBound (ops i)) (ht:∀ i,i<n→Lp.contains 5=true→(ops i).t.size≤140737488355328):PlayInv w n ops Lp Lh (fun g k F w'=>LawI w (.slice co cn cap) g (min k n) F w'):=by
 refine⟨fun g k F w' ⟨D,t,S,R,N,h⟩=>⟨h.old,lt_of_row h.law,h.low⟩,fun g k F w' w'' ⟨D,t,S,R,N,h⟩ hb=>⟨D,t,S,R,N,h.frame hb⟩,fun g k F w' ⟨D,t,S,R,N,h⟩=>?_,?_,fun g k F w' ⟨D,t,S,R,N,h⟩=>law_looks h (Nat.le_trans (Nat.min_le_right _ _) hn)⟩
 ·by_cases hk:k<n
  ·rw [show min (k+1) n=min k n+1 by omega];exact⟨D,t,S,R,N,h.skip⟩
  ·rw [show min (k+1) n=min k n by omega];exact⟨D,t,S,R,N,h⟩
 intro g k F w' hkn hin hI
 rw [show min k n=k by omega] at hI
 rw [show min (k+1) n=k+1 by omega]
 obtain⟨D,t,S,R,N,h⟩:=hI
 have hk4:k≤4000000000000:=by omega
 have hk5:k≤1759218604441:=by omega
 obtain⟨hs,ha1,ha2⟩:=ha k hkn
 have hgc:w'.cell? ⟨g,0,none⟩=some (.slice co cn cap):=by rw [cell_of_row _ _ _ _ _ _ h.law];rfl
 have fin:(Calls Tryz.prog 18 #[.pointer (some ⟨g,0,none⟩),.agg (ops k).cells] w' fun e w''=>e=.returned (.bool true)∧StepOk w (.slice co cn cap) g k F w' w'')→Calls Tryz.prog 18 #[.pointer (some ⟨g,0,none⟩),.agg (ops k).cells] w' fun e w''=>∃ r F',e=.returned (.bool r)∧((Lh.contains (ops k).kind=true∨(ops k).kind=6)→r=true)∧LawI w (.slice co cn cap) g (k+1) F' w''∧Only F w' w''∧∀ b,F' b→F b∨w'.heap.size≤b:=fun hc=>hc.mono fun e w'' ⟨h1,F',h2,h3,h4⟩=>⟨true,F',h1,fun _=>rfl,h2,h3,h4⟩
 apply fin
 obtain⟨hl1,hl2⟩:=hL _ hin
 by_cases h4:(ops k).kind≤4
 ·exact (step_asked co cn cap cs vs (ops k) g w w' hl1 h4 ⟨ha1,ha2⟩ hcn h.old hgc (lt_of_row h.law) hcs).mono fun e w'' ⟨e1,e2⟩=>⟨e1,StepOk.same h e2⟩
 have cases13:(ops k).kind=5∨(ops k).kind=6∨(ops k).kind=7∨(ops k).kind=8∨(ops k).kind=9∨(ops k).kind=10∨(ops k).kind=11∨(ops k).kind=12∨(ops k).kind=13∨(ops k).kind=14∨(ops k).kind=15∨(ops k).kind=16∨(ops k).kind=17:=by omega
 rcases cases13 with hk|hk|hk|hk|hk|hk|hk|hk|hk|hk|hk|hk|hk
 ·exact (step_match (ops k) g w' hk (by simp only [maxLen];omega) (ht k hkn (by rw [← hk];exact hin))).mono fun e w'' ⟨e1,e2⟩=>⟨e1,StepOk.same h e2⟩
 ·refine step_open co cn cap cs vs (ops k) g w w' (StepOk w (.slice co cn cap) g k F w') hk ⟨ha1,ha2⟩ hcn h.old (lt_of_row h.law) hgc hcs (fun w'' hb _=>StepOk.same h hb) (fun i w1 hi hb1 hok hat hnil=>?_)
  obtain⟨e,he⟩:=check_ex (cs i)
  by_cases h0:e=0
  ·subst h0
   have h1:=h.frame hb1
   have hat0:CfgAt w (cs i) (vs i):=by
    rcases hcs with hz|⟨b,off,_,_,hall⟩
    ·omega
    ·exact (hall i hi).2.2.1
   refine (opened_ok g (cs i) (vs i) w.heap.size _ (.slice co cn cap) t.dv t.sv t.rv t.nv w1 hok hat hnil he h1.law h1.ds (by rw [List.length_map];have:=h.len;omega) (fun b hb e=>by have:=h.top .d .g b hb (by rw [e];rfl);cases this) h1.old.size).mono ?_
   rintro e w'' ⟨rfl,gd,rd,rv,dv',ho⟩
   exact⟨rfl,StepOk.pre hb1 (h1.opened he hok hat0 ho)⟩
  ·exact (opened_bad g (cs i) (vs i) e w1 hok hat hnil he h0).mono fun e w'' ⟨h1,h2⟩=>⟨h1,StepOk.same h (hb1.trans (h2.mono hb1.size))⟩
 ·exact step_pair h hk4 (ops k) (by omega) (by omega) ⟨ha1,ha2⟩ (fun i s hi w1 _ h1=>onDoc_insert g s.pd s.rd (ops k) (fun w''=>StepT w (.slice co cn cap) g k F w1 w'' t) w1 hk (fun w2 hb2=>(doc_insert w w2 s k (ops k) ((h1.frame hb2).docs s (List.mem_of_getElem? hi)) hk4 hs hk).mono fun e w'' ⟨e1,e2⟩=>⟨e1,StepT.pre h1 hb2 (StepT.edit (h1.frame hb2) hi e2)⟩))
 ·exact step_pair h hk4 (ops k) (by omega) (by omega) ⟨ha1,ha2⟩ (fun i s hi w1 _ h1=>onDoc_delete g s.pd s.rd (ops k) (fun w''=>StepT w (.slice co cn cap) g k F w1 w'' t) w1 hk (fun w2 hb2=>(doc_delete w w2 s k (ops k) ((h1.frame hb2).docs s (List.mem_of_getElem? hi)) hk4 hk).mono fun e w'' ⟨e1,e2⟩=>⟨e1,StepT.pre h1 hb2 (StepT.edit (h1.frame hb2) hi e2)⟩))
 ·exact step_pair h hk4 (ops k) (by omega) (by omega) ⟨ha1,ha2⟩ (fun i s hi w1 _ h1=>onDoc_view g s.pd s.rd (ops k) (fun w''=>StepT w (.slice co cn cap) g k F w1 w'' t) w1 hk (fun w2 hb2=>(doc_view w w2 s k (ops k) ((h1.frame hb2).docs s (List.mem_of_getElem? hi)) hk4 hk).mono fun e w'' ⟨e1,e2⟩=>⟨e1,StepT.same h1 (hb2.trans (e2.mono hb2.size))⟩))
 ·exact step_pair h hk4 (ops k) (by omega) (by omega) ⟨ha1,ha2⟩ (fun i s hi w1 _ h1=>step_spans h1 hk5 hi (ops k) hk)
 ·exact step_pair h hk4 (ops k) (by omega) (by omega) ⟨ha1,ha2⟩ (fun i s hi w1 _ h1=>step_find h1 hk5 hi (ops k) hk (by simp only [maxLen];omega))
 ·exact step_pair h hk4 (ops k) (by omega) (by omega) ⟨ha1,ha2⟩ (fun i s hi w1 _ h1=>onDoc_left g s.pd s.rd (ops k) (fun w''=>StepT w (.slice co cn cap) g k F w1 w'' t) w1 hk (fun w2 hb2=>(doc_left w w2 s k (ops k) ((h1.frame hb2).docs s (List.mem_of_getElem? hi)) hk4 hk).mono fun e w'' ⟨e1,e2⟩=>⟨e1,StepT.same h1 (hb2.trans (e2.mono hb2.size))⟩))
 ·exact step_pair h hk4 (ops k) (by omega) (by omega) ⟨ha1,ha2⟩ (fun i s hi w1 _ h1=>onDoc_raise g s.pd s.rd (ops k) (fun w''=>StepT w (.slice co cn cap) g k F w1 w'' t) w1 hk (fun w2 hb2=>(doc_raise w w2 s k (ops k) ((h1.frame hb2).docs s (List.mem_of_getElem? hi)) hk4 hk).mono fun e w'' ⟨e1,e2⟩=>⟨e1,StepT.pre h1 hb2 (StepT.edit (h1.frame hb2) hi e2)⟩))
 ·exact step_pair h hk4 (ops k) (by omega) (by omega) ⟨ha1,ha2⟩ (fun i s hi w1 _ h1=>onDoc_release g s.pd s.rd (ops k) (fun w''=>StepT w (.slice co cn cap) g k F w1 w'' t) w1 hk (fun w2 hb2=>(doc_release w w2 s k (ops k) ((h1.frame hb2).docs s (List.mem_of_getElem? hi)) hk4 hk).mono fun e w'' ⟨e1,e2⟩=>⟨e1,StepT.pre h1 hb2 (StepT.edit (h1.frame hb2) hi e2)⟩))
 ·exact step_pair h hk4 (ops k) (by omega) (by omega) ⟨ha1,ha2⟩ (fun i s hi w1 _ h1=>step_log h1 hk5 hi (ops k) hk)
 ·exact step_pair h hk4 (ops k) (by omega) (by omega) ⟨ha1,ha2⟩ (fun i s hi w1 _ h1=>onDoc_version g s.pd s.rd (ops k) (fun w''=>StepT w (.slice co cn cap) g k F w1 w'' t) w1 hk (fun w2 hb2=>(doc_version w w2 s k (ops k) ((h1.frame hb2).docs s (List.mem_of_getElem? hi)) hk4 hk).mono fun e w'' ⟨e1,e2⟩=>⟨e1,StepT.same h1 (hb2.trans (e2.mono hb2.size))⟩))
 ·exact step_pair h hk4 (ops k) (by omega) (by omega) ⟨ha1,ha2⟩ (fun i s hi w1 _ h1=>step_poll h1 hk5 hi (ops k) hk)
theorem law_start (w:World) (cv:Value) (n:Nat):∃ F,LawI w cv w.heap.size (min 0 n) F (w.alloc (.cells #[cv,.slice none 0 0,.slice none 0 0,.slice none 0 0,.slice none 0 0] 55)):=by
 rw [Nat.zero_min]
 refine⟨fun b=>(∃ y,tblk w.heap.size ⟨.slice none 0 0,.slice none 0 0,.slice none 0 0,.slice none 0 0⟩ y=some b)∨∃ s a,s ∈ ([]:List DS)∧dblk s a=some b,[],⟨.slice none 0 0,.slice none 0 0,.slice none 0 0,.slice none 0 0⟩,[],[],[],⟨Go.heap_alloc_new _ _,OwnL.nil _ _ _ _ _,fun s hs=>(by cases hs),fun i j si sj a b x hi=>(by cases hi),fun s a x y hs=>(by cases hs),fun a b x ha hb=>?_,MarkI.nil _ _ _ _ _ _ _ _ _,MarkI.nil _ _ _ _ _ _ _ _ _,MarkI.nil _ _ _ _ _ _ _ _ _,Nat.le_refl _,below_box _ _,Nat.le_refl _,fun b=>Iff.rfl⟩⟩
 cases a <;> cases b <;> first|rfl|(cases ha;done)|(cases hb;done)
end Go.Proofs.YtgigkiocdiffjaaGreat
