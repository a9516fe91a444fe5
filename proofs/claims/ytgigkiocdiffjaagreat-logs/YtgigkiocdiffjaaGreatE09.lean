import Derived.Test.YtgigkiocdiffjaaGreatE07
import Derived.Deep.AppendLies
set_option maxRecDepth 100000
set_option maxHeartbeats 16000000
namespace Go.Proofs.YtgigkiocdiffjaaGreat
open Go.RowKit Veil
section
variable {α:Type}
def OwnL (e:TypeId) (sz:Nat) (f:α→List Value) (w:World) (B:Nat) (v:Value) (l:List α):Prop:=w.ownsRow B e sz v l.length (l.flatMap f)
variable {e:TypeId} {sz:Nat} {f:α→List Value} {w w':World} {B:Nat} {v:Value} {l:List α}
theorem OwnL.nil (e:TypeId) (sz:Nat) (f:α→List Value) (w:World) (B:Nat):OwnL e sz f w B (.slice none 0 0) []:=World.ownsRow_nil w B e sz
theorem grown_of_below (h:Below w.heap.size w w'):w.grownBy w' none:=⟨h.os,h.tape,h.output,h.size,fun k hk _=>h.block k hk⟩
theorem below_of_grown {b:Nat} {row:Option Nat} (hg:w.grownBy w' row) (hr:∀ k,row=some k→b≤k) (hb:b≤w.heap.size):Below b w w':=
 ⟨hg.os,hg.tape,hg.output,hg.size,fun k hk=>hg.block k (by omega) (fun e=>by have:=hr k e.symm;omega)⟩
theorem OwnL.below (h:OwnL e sz f w B v l) (hb:Below w.heap.size w w'):OwnL e sz f w' B v l:=by
 refine World.ownsRow.kept h (grown_of_below hb) ?_
 cases v.ownBlock <;> simp
theorem OwnL.kept {row:Option Nat} (h:OwnL e sz f w B v l) (hg:w.grownBy w' row) (hne:∀ k,v.ownBlock=some k→row=some k→False):OwnL e sz f w' B v l:=by
 refine World.ownsRow.kept h hg ?_
 cases hv:v.ownBlock with
 | none=>exact Or.inl rfl
 | some k=>exact Or.inr fun e=>hne k hv e.symm
theorem OwnL.shape (h:OwnL e sz f w B v l):∃ ao cap,v=.slice ao l.length cap:=by
 rcases h.2 with⟨h1,h2⟩|⟨g,cap,_,h1,_⟩
 ·exact⟨none,0,by rw [h1,h2]⟩
 ·exact⟨_,_,h1⟩
theorem OwnL.form (h:OwnL e sz f w B v l) (hn:0<l.length):∃ g cap,v=.slice (some ⟨g,0,none⟩) l.length cap∧B≤g∧g<w.heap.size:=World.ownsRow.form h hn
theorem OwnL.lt (h:OwnL e sz f w B v l) {k:Nat} (hk:v.ownBlock=some k):B≤k∧k<w.heap.size:=World.ownsRow.lt h k hk
theorem OwnL.mono (h:OwnL e sz f w B v l) {B':Nat} (hB:B'≤B):OwnL e sz f w B' v l:=by
 refine⟨h.1,h.2.imp id ?_⟩
 rintro ⟨g,cap,cur,h1,h2,h3⟩
 exact⟨g,cap,cur,h1,Nat.le_trans hB h2,h3⟩
theorem flat_get (hf:∀ a,(f a).length=sz):∀ (l:List α) (i:Nat) (a:α) (j:Nat),l[i]?=some a→j<sz→(l.flatMap f)[i*sz+j]?=(f a)[j]?
 | [],i,a,j,h,_=>by simp at h
 | b :: l,0,a,j,h,hj=>by
  simp at h;subst h
  simp only [List.flatMap_cons,Nat.zero_mul,Nat.zero_add]
  rw [List.getElem?_append_left (by rw [hf];exact hj)]
 | b :: l,i+1,a,j,h,hj=>by
  simp only [List.flatMap_cons]
  rw [List.getElem?_append_right (by rw [hf,Nat.add_mul];omega),hf,show (i+1)*sz+j-sz=i*sz+j by rw [Nat.add_mul];omega]
  exact flat_get hf l i a j (by simpa using h) hj
theorem OwnL.cell (hf:∀ a,(f a).length=sz) (h:OwnL e sz f w B v l) {g:Nat} (hg:v.ownBlock=some g) {i:Nat} {a:α} (hi:l[i]?=some a) {j:Nat} (hj:j<sz):w.cell? ⟨g,i*sz+j,none⟩=(f a)[j]?:=by
 have h1:=flat_get hf l i a j hi hj
 have hlt:j<(f a).length:=by rw [hf];exact hj
 have h2:(l.flatMap f)[i*sz+j]?=some (f a)[j]:=by rw [h1,List.getElem?_eq_getElem hlt]
 have h3:=World.ownsRow.cells h hg _ _ h2
 have hadd:(⟨g,0,none⟩:Addr).add (i*sz+j)=⟨g,i*sz+j,none⟩:=by unfold Addr.add;split <;> simp_all
 rw [hadd] at h3
 rw [h3,List.getElem?_eq_getElem hlt]
theorem OwnL.seqV (hf:∀ a,(f a).length=sz) (h:OwnL e sz f w B v l):SeqV sz f w v l:=by
 by_cases hn:0<l.length
 ·obtain⟨g,cap,hv,_,hg⟩:=h.form hn
  refine⟨some ⟨g,0,none⟩,cap,g,hv,Or.inr ⟨rfl,hg⟩,fun i a hi j hj=>h.cell hf (by rw [hv];rfl) hi hj⟩
 ·obtain⟨ao,cap,hv⟩:=h.shape
  exact⟨ao,cap,0,hv,Or.inl (List.eq_nil_of_length_eq_zero (by omega)),fun i a hi=>by rw [List.eq_nil_of_length_eq_zero (l:=l) (by omega)] at hi;simp at hi⟩
theorem wpList_push {P:Program} {ops:Array Oper} {rest:List Oper} {o:Oper} {act:Act} {Q:Exit→Act→World→Prop} (hgd:o.guard=none) (s x:Operand) (t:TypeId)
  (ho:o.op=.call { callee:=.builtin .append,args:=#[s,x],argTypes:=#[t,t] }) (z:Value) (bytes:Nat) (ht:P.underlying t=some (.slice e)) (hinfo:(P.info? e).map (fun i=>(i.zero,i.size,i.bytes))=some (some z,sz,bytes)) (hzs:z.cells.size=sz) (hsz:0<sz)
  (hs:act.eval s=v) (hown:OwnL e sz f w B v l) (h0 c:Nat) (a:α) (hx:act.eval x=.slice (some ⟨h0,0,none⟩) 1 c) (ty:TypeId) (fr:Nat × Nat) (hb0:w.heap[h0]?=some (.cells (f a).toArray ty fr)) (hfl:(f a).length=sz) (h1:∀ u ∈ f a,u.oneCell'=true)
  (hby:(l.length+1)*bytes≤140737488355328) (hb1:0<bytes) (hbase:B≤w.heap.size) (H:Nat) (hH:w.heap.size=H)
  (h:∀ g cap w',OwnL e sz f w' B (.slice (some ⟨g,0,none⟩) (l.length+1) cap) (l++[a])→w.grownBy w' v.ownBlock→(v.ownBlock=some g∨g=H)→g<w'.heap.size→wpList P ops Q rest (act.put o.dst (.slice (some ⟨g,0,none⟩) (l.length+1) cap)) w'):wpList P ops Q (o :: rest) act w:=by
 obtain⟨i,hi,hzz⟩:=Option.map_eq_some_iff.1 hinfo
 simp only [Prod.mk.injEq] at hzz
 obtain⟨hz,hsize,hbb⟩:=hzz
 have hle:l.length+1≤(l.length+1)*bytes:=Nat.le_mul_of_pos_right _ hb1
 refine wpList_append_lies w hgd s x t ho B e i z sz bytes ht hi hz hsize hbb hzs hsz v l.length (l.flatMap f) hs hown ⟨h0,0,none⟩ 1 c (f a) hx (by rw [hfl,Nat.one_mul]) (fun j u hu=>World.news_of_block hb0 j u (by simpa using hu)) h1 (by omega) (by simp only [maxLen];omega) hby hbase H hH ?_
 intro g cap w' h2 h3 h4 h5
 refine h g cap w' ?_ h3 h4 h5
 unfold OwnL
 rw [List.length_append,List.flatMap_append]
 simpa using h2
theorem step_push {P:Program} {ops:Array Oper} {o:Oper} {act:Act} {K:Act→World→Prop} {Q:Exit→Act→World→Prop} {E:Prop} (hgd:o.guard=none) (s x:Operand) (t:TypeId)
  (ho:o.op=.call { callee:=.builtin .append,args:=#[s,x],argTypes:=#[t,t] }) (z:Value) (bytes:Nat) (ht:P.underlying t=some (.slice e)) (hinfo:(P.info? e).map (fun i=>(i.zero,i.size,i.bytes))=some (some z,sz,bytes)) (hzs:z.cells.size=sz) (hsz:0<sz)
  (hs:act.eval s=v) (hown:OwnL e sz f w B v l) (h0 c:Nat) (a:α) (hx:act.eval x=.slice (some ⟨h0,0,none⟩) 1 c) (ty:TypeId) (fr:Nat × Nat) (hb0:w.heap[h0]?=some (.cells (f a).toArray ty fr)) (hfl:(f a).length=sz) (h1:∀ u ∈ f a,u.oneCell'=true)
  (hby:(l.length+1)*bytes≤140737488355328) (hb1:0<bytes) (hbase:B≤w.heap.size) (H:Nat) (hH:w.heap.size=H)
  (h:∀ g cap w',OwnL e sz f w' B (.slice (some ⟨g,0,none⟩) (l.length+1) cap) (l++[a])→w.grownBy w' v.ownBlock→(v.ownBlock=some g∨g=H)→g<w'.heap.size→K (act.put o.dst (.slice (some ⟨g,0,none⟩) (l.length+1) cap)) w') :
  if Region.wanted o (yielded ops act.tmps)=true then Oper.wp P o act w K Q else E:=by
 obtain⟨i,hi,hzz⟩:=Option.map_eq_some_iff.1 hinfo
 simp only [Prod.mk.injEq] at hzz
 obtain⟨hz,hsize,hbb⟩:=hzz
 have hle:l.length+1≤(l.length+1)*bytes:=Nat.le_mul_of_pos_right _ hb1
 refine step_append_lies w hgd s x t ho B e i z sz bytes ht hi hz hsize hbb hzs hsz v l.length (l.flatMap f) hs hown ⟨h0,0,none⟩ 1 c (f a) hx (by rw [hfl,Nat.one_mul]) (fun j u hu=>World.news_of_block hb0 j u (by simpa using hu)) h1 (by omega) (by simp only [maxLen];omega) hby hbase H hH ?_
 intro g cap w' h2 h3 h4 h5
 refine h g cap w' ?_ h3 h4 h5
 unfold OwnL
 rw [List.length_append,List.flatMap_append]
 simpa using h2
theorem OwnL.row {g:Nat} (h:OwnL e sz f w B v l) (hg:v.ownBlock=some g):∃ cap cur,v=.slice (some ⟨g,0,none⟩) l.length cap∧w.heap[g]?=some (.cells cur e (0,0))∧cur.size=cap*sz∧l.length≤cap∧cap≤maxLen∧cur.toList.take (l.length*sz)=l.flatMap f∧B≤g:=by
 rcases h.2 with⟨h1,_⟩|⟨g',cap,cur,h1,h2,h3,h4,h5,h6,h7⟩
 ·rw [h1] at hg;cases hg
 ·rw [h1] at hg
  obtain rfl:g'=g:=by simpa [Value.ownBlock] using hg
  exact⟨cap,cur,h1,h3,h6,h4,h5,h7,h2⟩
theorem flat_set (hf:∀ a,(f a).length=sz):∀ (l:List α) (i:Nat) (a a':α) (j:Nat) (u:Value),l[i]?=some a→j<sz→(f a).set j u=f a'→(l.flatMap f).set (i*sz+j) u=(l.set i a').flatMap f
 | [],i,a,a',j,u,h,_,_=>by simp at h
 | b :: l,0,a,a',j,u,h,hj,he=>by
  simp at h;subst h
  simp only [List.flatMap_cons,Nat.zero_mul,Nat.zero_add,List.set_cons_zero]
  rw [List.set_append_left _ _ (by rw [hf];exact hj),he]
 | b :: l,i+1,a,a',j,u,h,hj,he=>by
  simp only [List.flatMap_cons,List.set_cons_succ]
  rw [List.set_append_right _ _ (by rw [hf,Nat.add_mul];omega),hf,show (i+1)*sz+j-sz=i*sz+j by rw [Nat.add_mul];omega]
  rw [flat_set hf l i a a' j u (by simpa using h) hj he]
theorem OwnL.set (hf:∀ a,(f a).length=sz) (h:OwnL e sz f w B v l) {g:Nat} (hg:v.ownBlock=some g) {i:Nat} {a a':α} (hi:l[i]?=some a) {j:Nat} (hj:j<sz) {u:Value} (hu:(f a).set j u=f a'):OwnL e sz f (w.setCell ⟨g,i*sz+j,none⟩ u) B v (l.set i a'):=by
 obtain⟨cap,cur,hv,hr,hs,hl,hm,ht,hB⟩:=h.row hg
 have hil:i<l.length:=(List.getElem?_eq_some_iff.1 hi).1
 have hidx:i*sz+j<l.length*sz:=by
  have:(i+1)*sz≤l.length*sz:=Nat.mul_le_mul_right _ hil
  rw [Nat.add_mul] at this;omega
 have hfl:=flat_set hf l i a a' j u hi hj hu
 refine⟨?_,Or.inr ⟨g,cap,cur.setIfInBounds (i*sz+j) u,?_,hB,heap_setCell_same _ _ _ _ _ _ hr,?_,hm,?_,?_⟩⟩
 ·rw [← hfl,List.length_set,List.length_set];exact h.1
 ·rw [List.length_set];exact hv
 ·rw [List.length_set];exact hl
 ·rw [Array.size_setIfInBounds];exact hs
 ·rw [List.length_set,← hfl,← ht,Array.toList_setIfInBounds,List.take_set]
end
end Go.Proofs.YtgigkiocdiffjaaGreat
