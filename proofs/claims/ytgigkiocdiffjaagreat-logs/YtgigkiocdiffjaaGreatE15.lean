import Derived.Test.YtgigkiocdiffjaaGreatE12
import Derived.Laws.AppendOwnNone
set_option maxRecDepth 100000
set_option maxHeartbeats 16000000
namespace Go.Proofs.YtgigkiocdiffjaaGreat
open Go.RowKit Veil
section
variable {α:Type} {e:TypeId} {sz:Nat} {f:α→List Value} {w:World} {B:Nat} {v:Value} {l:List α}
theorem flat_length (hf:∀ a,(f a).length=sz):∀ xs:List α,(xs.flatMap f).length=xs.length*sz
 | []=>by simp
 | b :: xs=>by simp only [List.flatMap_cons,List.length_append,hf,flat_length hf xs,List.length_cons,Nat.add_mul];omega
theorem wpList_pushes {P:Program} {ops:Array Oper} {rest:List Oper} {o:Oper} {act:Act} {Q:Exit→Act→World→Prop} (hgd:o.guard=none) (s x:Operand) (t:TypeId)
  (ho:o.op=.call { callee:=.builtin .append,args:=#[s,x],argTypes:=#[t,t] }) (z:Value) (bytes:Nat) (ht:P.underlying t=some (.slice e)) (hinfo:(P.info? e).map (fun i=>(i.zero,i.size,i.bytes))=some (some z,sz,bytes)) (hzs:z.cells.size=sz) (hsz:0<sz)
  (hs:act.eval s=v) (hown:OwnL e sz f w B v l) (so:Option Addr) (m c:Nat) (xs:List α) (hx:act.eval x=.slice so m c) (hm:xs.length=m) (hsrc:so=none→m=0∧c=0) (hcell:∀ a,so=some a→∀ j u,(xs.flatMap f)[j]?=some u→w.cell? (a.add j)=some u)
  (hfl:∀ a,(f a).length=sz) (h1:∀ a,a ∈ xs→∀ u ∈ f a,u.oneCell'=true) (hby:(l.length+m)*bytes≤140737488355328) (hb1:0<bytes) (hbase:B≤w.heap.size)
  (h:∀ v' w',OwnL e sz f w' B v' (l++xs)→w.grownBy w' v.ownBlock→(v'.ownBlock=v.ownBlock∨v'.ownBlock=some w.heap.size)→wpList P ops Q rest (act.put o.dst v') w'):wpList P ops Q (o :: rest) act w:=by
 obtain⟨i,hi,hzz⟩:=Option.map_eq_some_iff.1 hinfo
 simp only [Prod.mk.injEq] at hzz
 obtain⟨hz,hsize,hbb⟩:=hzz
 have hle:l.length+m≤(l.length+m)*bytes:=Nat.le_mul_of_pos_right _ hb1
 cases so with
 | none=>
  obtain⟨rfl,rfl⟩:=hsrc rfl
  have hx0:xs=[]:=List.eq_nil_of_length_eq_zero hm
  subst hx0
  refine wpList_append_own_none hgd s x t ho B e i sz ht hi v l.length (l.flatMap f) hs hown hx ?_
  exact h v w (by simpa using hown) ⟨rfl,rfl,rfl,Nat.le_refl _,fun _ _ _=>rfl⟩ (Or.inl rfl)
 | some a=>
  refine wpList_plain hgd fun K hK=>?_
  have hlen:(xs.flatMap f).length=m*sz:=by rw [← hm];exact flat_length hfl xs
  obtain⟨v',w',hr,h2,h3,_,h5⟩:=run_append_own_at (P:=P) w B t o.type e i z sz bytes ht hi hz hsize hbb hzs hsz v l.length (l.flatMap f) hown a m c (xs.flatMap f) hlen (hcell a rfl) (fun u hu=>by
   obtain⟨b,hb,hu⟩:=List.mem_flatMap.1 hu
   exact h1 b hb u hu) (by simp only [maxLen];omega) hby hbase
  unfold Oper.wp execOp
  simp only [ho,resolve,invoke,builtin,Sem.run_bind,Sem.run_pure,Result.andThen_ok,List.map_toArray,List.map_cons,List.map_nil,hs,hx,hr]
  refine hK _ _ (h v' w' ?_ h3 h5)
  unfold OwnL
  rw [List.length_append,List.flatMap_append,hm]
  exact h2
end
section
variable {w0 w w6:World} {g:Nat} {c:Cfg} {v:CfgV} {rows new:List (RC × Value)} {acts:List RA} {rv av:Value}
def putIn (rows new:List (RC × Value)) (k:Nat):List (RC × Value):=rows.take k++new++rows.drop k
theorem putIn_get {k:Nat} (hk:k≤rows.length) (i:Nat) (p:RC × Value) (h:(putIn rows new k)[i]?=some p):(p ∈ new∧k≤i∧i<k+new.length)∨(i<k∧rows[i]?=some p)∨(k+new.length≤i∧rows[i-new.length]?=some p):=by
 unfold putIn at h
 have hl:(rows.take k).length=k:=by simp;omega
 by_cases h1:i<k
 ·right;left
  rw [List.append_assoc,List.getElem?_append_left (by omega),List.getElem?_take_of_lt h1] at h
  exact⟨h1,h⟩
 ·by_cases h2:i<k+new.length
  ·left
   rw [List.getElem?_append_left (by rw [List.length_append,hl];exact h2),List.getElem?_append_right (by omega)] at h
   exact⟨List.mem_of_getElem? h,by omega,h2⟩
  ·right;right
   rw [List.getElem?_append_right (by rw [List.length_append,hl];omega),List.length_append,hl,List.getElem?_drop] at h
   refine⟨by omega,?_⟩
   rw [show i-new.length=k+(i-(k+new.length)) by omega]
   exact h
theorem rowStep {k:Nat} {v6:Value} (h:RDocO w0 w g c v rows acts rv av) (h1:Below w.heap.size w w6) (hk:k≤rows.length) (hnew:∀ p,p ∈ new→p.2=.slice none 0 0∧p.1.marks=[])
  (hown:OwnL 223 3 cellV w6 w.heap.size v6 (putIn rows new k)) :
  RDocO w0 (w6.setCell ⟨g,4,none⟩ v6) g c v (putIn rows new k) acts v6 av∧Only (fun k=>∃ s,blkOf' g rv av rows s=some k) w (w6.setCell ⟨g,4,none⟩ v6)∧(∀ s b,blkOf' g v6 av (putIn rows new k) s=some b→(∃ s,blkOf' g rv av rows s=some b)∨w.heap.size≤b):=by
 have hgl:=h.parts.low .box g rfl
 have hB0:=h.old.size
 have hv6:∀ b,v6.ownBlock=some b→w.heap.size≤b∧b<w6.heap.size:=fun b hb=>hown.lt hb
 have hsz:=h1.size
 /- where the blocks of the marks were -/
 have hmk:∀ i b,blkOf' g v6 av (putIn rows new k) (.mk i)=some b→∃ j,blkOf' g rv av rows (.mk j)=some b∧(i<k∧j=i∨k+new.length≤i∧j=i-new.length):=by
  intro i b hb
  simp only [blkOf'] at hb
  cases hp:(putIn rows new k)[i]? with
  | none=>rw [hp] at hb;cases hb
  | some p=>
   rw [hp] at hb
   simp only [Option.bind_some] at hb
   rcases putIn_get hk i p hp with⟨hn,_,_⟩|⟨h2,h3⟩|⟨h2,h3⟩
   ·rw [(hnew p hn).1] at hb;cases hb
   ·exact⟨i,by simp only [blkOf',h3,Option.bind_some];exact hb,Or.inl ⟨h2,rfl⟩⟩
   ·exact⟨i-new.length,by simp only [blkOf',h3,Option.bind_some];exact hb,Or.inr ⟨h2,rfl⟩⟩
 have k3:∀ {α:Type} {e:TypeId} {sz:Nat} {f:α→List Value} {x:Value} {l:List α} {B:Nat},OwnL e sz f w6 B x l→(∀ b,x.ownBlock=some b→b≠g)→OwnL e sz f (w6.setCell ⟨g,4,none⟩ v6) B x l:=fun hx hb=>hx.kept (grown_setCell _ _ _) (fun b hb1 hb2=>hb b hb1 (Option.some.inj hb2).symm)
 refine⟨⟨?_,h.cfg,?_,?_,?_,?_,⟨?_,?_⟩⟩,?_,?_⟩
 ·unfold RBox
  rw [heap_setCell_same _ _ _ _ _ _ ((h1.block g h.box.lt).trans h.box)]
  rfl
 ·refine⟨h1.os.trans h.old.os,h1.tape.trans h.old.tape,h1.output.trans h.old.output,by rw [size_setCell'];omega,fun j hj=>?_⟩
  rw [heap_setCell_other _ _ _ _ (show j≠g by omega),h1.block j (by omega)]
  exact h.old.block j hj
 ·exact (k3 hown (fun b hb=>by have:=hv6 b hb;omega)).mono hB0
 ·intro i p hp
  rcases putIn_get hk i p hp with⟨hn,_,_⟩|⟨_,h3⟩|⟨_,h3⟩
  ·rw [(hnew p hn).1,(hnew p hn).2]
   exact OwnL.nil _ _ _ _ _
  ·exact k3 ((h.marks _ p h3).below h1) (fun b hb e=>by
    subst e
    have:blkOf' b rv av rows (.mk i)=some b:=by simp only [blkOf',h3,Option.bind_some];exact hb
    cases h.parts.apart .box (.mk i) b rfl this)
  ·exact k3 ((h.marks _ p h3).below h1) (fun b hb e=>by
    subst e
    have:blkOf' b rv av rows (.mk (i-new.length))=some b:=by simp only [blkOf',h3,Option.bind_some];exact hb
    cases h.parts.apart .box (.mk (i-new.length)) b rfl this)
 ·exact k3 (h.acts.below h1) (fun b hb e=>by subst e;cases h.parts.apart .box .acts b rfl hb)
 ·have old:∀ s b,s≠.row→blkOf' g v6 av (putIn rows new k) s=some b→b<w.heap.size:=by
   intro s b hs hb
   cases s with
   | row=>exact absurd rfl hs
   | box=>exact (h.parts.low .box b hb).2
   | acts=>exact (h.parts.low .acts b hb).2
   | mk i=>obtain⟨j,hj,_⟩:=hmk i b hb;exact (h.parts.low _ b hj).2
  intro s t b hs ht
  by_cases h2:s=.row
  ·by_cases h3:t=.row
   ·rw [h2,h3]
   ·subst h2
    have:=old t b h3 ht
    have:=(hv6 b hs).1
    omega
  ·by_cases h3:t=.row
   ·subst h3
    have:=old s b h2 hs
    have:=(hv6 b ht).1
    omega
   ·cases s with
    | row=>exact absurd rfl h2
    | box=>
     cases t with
     | row=>exact absurd rfl h3
     | box=>rfl
     | acts=>cases h.parts.apart .box .acts b hs ht
     | mk j=>obtain⟨j',hj,_⟩:=hmk j b ht;cases h.parts.apart .box (.mk j') b hs hj
    | acts=>
     cases t with
     | row=>exact absurd rfl h3
     | box=>cases h.parts.apart .acts .box b hs ht
     | acts=>rfl
     | mk j=>obtain⟨j',hj,_⟩:=hmk j b ht;cases h.parts.apart .acts (.mk j') b hs hj
    | mk i=>
     obtain⟨i',hi,hi2⟩:=hmk i b hs
     cases t with
     | row=>exact absurd rfl h3
     | box=>cases h.parts.apart (.mk i') .box b hi ht
     | acts=>cases h.parts.apart (.mk i') .acts b hi ht
     | mk j=>
      obtain⟨j',hj,hj2⟩:=hmk j b ht
      have:=h.parts.apart (.mk i') (.mk j') b hi hj
      have hij:i'=j':=by cases this;rfl
      have:i=j:=by omega
      rw [this]
 ·intro s b hb
  rw [size_setCell']
  cases s with
  | row=>have:=hv6 b hb;omega
  | box=>have:=h.parts.low .box b hb;omega
  | acts=>have:=h.parts.low .acts b hb;omega
  | mk i=>obtain⟨j,hj,_⟩:=hmk i b hb;have:=h.parts.low _ b hj;omega
 ·refine⟨h1.os,h1.tape,h1.output,by rw [size_setCell'];exact hsz,fun j hj hF=>?_⟩
  rw [heap_setCell_other _ _ _ _ (fun e=>hF ⟨.box,by rw [e];rfl⟩),h1.block j hj]
 ·intro s b hb
  cases s with
  | row=>exact Or.inr (hv6 b hb).1
  | box=>exact Or.inl ⟨.box,hb⟩
  | acts=>exact Or.inl ⟨.acts,hb⟩
  | mk i=>obtain⟨j,hj,_⟩:=hmk i b hb;exact Or.inl ⟨_,hj⟩
end
end Go.Proofs.YtgigkiocdiffjaaGreat
namespace Go.Proofs.YtgigkiocdiffjaaGreat
open Go.RowKit Veil
def okByte (b:Nat):Bool:=decide (32≤b) && decide (b≤126) && !(b == 35)
def okTo (s:ByteArray) (k:Nat):Bool:=((bytes s).take k).all fun b=>okByte b.toNat
def textOkB (s:ByteArray):Bool:=okTo s s.size && decide (1≤s.size) && decide (s.size≤40)
theorem okTo_succ (s:ByteArray) (k:Nat) (h:k<s.size):okTo s (k+1)=(okTo s k && okByte s[k].toNat):=by
 unfold okTo;rw [take_snoc s k h];simp
theorem okTo_bad (s:ByteArray) (k:Nat) (h:k<s.size) (h2:okByte s[k].toNat=false):textOkB s=false:=by
 have:okTo s s.size=false:=by
  unfold okTo
  rw [List.take_of_length_le (by rw [bytes_length];exact Nat.le_refl _),List.all_eq_false]
  refine⟨s[k],?_,by simp [h2]⟩
  rw [← bytes_get s k h]
  exact List.getElem_mem _
 simp [textOkB,this]
def newTo (s:ByteArray) (level k:Nat):List (RC × Value):=(List.range k).map fun j=>(⟨((bytes s).getD j 0).toNat,level,[]⟩,.slice none 0 0)
theorem newTo_succ (s:ByteArray) (level k:Nat) (h:k<s.size):newTo s level (k+1)=newTo s level k++[(⟨s[k].toNat,level,[]⟩,.slice none 0 0)]:=by
 unfold newTo
 rw [List.range_succ,List.map_append]
 have:(bytes s)[k]?.getD 0=s[k]:=by
  rw [← bytes_get s k h,List.getElem?_eq_getElem (by rw [bytes_length];exact h)];rfl
 simp [this]
theorem newTo_length (s:ByteArray) (level k:Nat):(newTo s level k).length=k:=by simp [newTo]
theorem newTo_mem {s:ByteArray} {level k:Nat} {p:RC × Value} (h:p ∈ newTo s level k):p.2=.slice none 0 0∧p.1.marks=[]:=by
 unfold newTo at h
 obtain⟨j,_,rfl⟩:=List.mem_map.1 h
 exact⟨rfl,rfl⟩
section
variable {α:Type} {e:TypeId} {sz:Nat} {f:α→List Value} {w:World} {B:Nat} {ao:Option Addr} {n cap:Nat} {l:List α}
theorem OwnL.src (h:OwnL e sz f w B (.slice ao n cap) l):(ao=none→n=0∧cap=0)∧∀ a,ao=some a→∃ rb,a=⟨rb,0,none⟩∧rb<w.heap.size∧l.length≤cap∧∀ j u,(l.flatMap f)[j]?=some u→w.cell? ⟨rb,j,none⟩=some u:=by
 rcases h.2 with⟨h1,h2⟩|⟨g,cap',cur,h1,h2,h3,h4,h5,h6,h7⟩
 ·simp only [Value.slice.injEq] at h1
  obtain⟨rfl,rfl,rfl⟩:=h1
  exact⟨(fun _=>⟨rfl,rfl⟩),(fun a h=>by cases h)⟩
 ·simp only [Value.slice.injEq] at h1
  obtain⟨rfl,rfl,rfl⟩:=h1
  refine⟨(fun h=>by cases h),(fun a ha=>?_)⟩
  obtain rfl:=Option.some.inj ha
  refine⟨g,rfl,lt_of_row h3,h4,fun j u hu=>?_⟩
  have:=World.ownsRow.cells h (g:=g) rfl j u hu
  have hadd:(⟨g,0,none⟩:Addr).add j=⟨g,j,none⟩:=by unfold Addr.add;split <;> simp_all
  rw [hadd] at this
  exact this
theorem flat_take {l:List α} {k j:Nat} {u:Value} (h:((l.take k).flatMap f)[j]?=some u):(l.flatMap f)[j]?=some u:=by
 have hl:l.flatMap f=(l.take k).flatMap f++(l.drop k).flatMap f:=by rw [← List.flatMap_append,List.take_append_drop]
 rw [hl,List.getElem?_append_left (List.getElem?_eq_some_iff.1 h).1]
 exact h
theorem flat_drop (hf:∀ a,(f a).length=sz) {l:List α} {k j:Nat} {u:Value} (hk:k≤l.length) (h:((l.drop k).flatMap f)[j]?=some u):(l.flatMap f)[k*sz+j]?=some u:=by
 have hl:l.flatMap f=(l.take k).flatMap f++(l.drop k).flatMap f:=by rw [← List.flatMap_append,List.take_append_drop]
 have ht:((l.take k).flatMap f).length=k*sz:=by rw [flat_length hf,List.length_take,Nat.min_eq_left hk]
 rw [hl,List.getElem?_append_right (by omega),ht,Nat.add_sub_cancel_left]
 exact h
end
theorem Tryz.infoRCell:(Tryz.prog.info? 223).map (fun i=>(i.zero,i.size,i.bytes))=some (some (.agg #[.int .u8 0,.int .i64 0,.slice none 0 0]),3,40):=by kernel_rfl
theorem cut_head {ao:Option Addr} {n cap k:Nat} (hs:∀ a,ao=some a→∃ rb,a=⟨rb,0,none⟩) (hk:k≤cap) (w:World):(Instr.slice 150 (.slice ao n cap) none (some (.int .i64 (k:Int))) none).run Tryz.prog w=.ok (.slice ao k cap) w:=by
 obtain⟨i,hi,hzz⟩:=Option.map_eq_some_iff.1 Tryz.infoRCell
 have hadd:(ao.map fun a=>a.add 0)=ao:=by
  cases ao with
  | none=>rfl
  | some a=>obtain⟨rb,rfl⟩:=hs a rfl;rfl
 have h0:(0:Int)≤(k:Int)∧(k:Int)≤(cap:Int):=by omega
 by_cases hc:cap=0
 ·simp [Instr.slice,run_underlying Tryz.underlying150,Instr.sliceBounds,Instr.sliceBound,asIntOf,h0,sizeOf,typeInfo,hi,hc]
  omega
 ·simp [Instr.slice,run_underlying Tryz.underlying150,Instr.sliceBounds,Instr.sliceBound,asIntOf,h0,sizeOf,typeInfo,hi,hc,hadd]
  exact fun h=>absurd h (by omega)
theorem cut_tail {ao:Option Addr} {n cap k:Nat} (hk:k≤n) (w:World):(Instr.slice 150 (.slice ao n cap) (some (.int .i64 (k:Int))) none none).run Tryz.prog w=.ok (.slice (if cap=k then ao else ao.map (·.add (k*3))) (n-k) (cap-k)) w:=by
 obtain⟨i,hi,hzz⟩:=Option.map_eq_some_iff.1 Tryz.infoRCell
 simp only [Prod.mk.injEq] at hzz
 have h0:(0:Int)≤(k:Int)∧(k:Int)≤(n:Int):=by omega
 simp [Instr.slice,run_underlying Tryz.underlying150,Instr.sliceBounds,Instr.sliceBound,asIntOf,h0,sizeOf,typeInfo,hi,hzz.2.1]
 exact fun h=>absurd h (by omega)
end Go.Proofs.YtgigkiocdiffjaaGreat
namespace Go.Proofs.YtgigkiocdiffjaaGreat
open Go.RowKit Veil
def ownC (row:List RC) (l:Nat):Nat:=(row.filter fun x=>x.origin == l).length
structure RowOk (c:Cfg) (row:List RC) (M:Nat):Prop where
 cells:∀ x,x ∈ row→RCOk c x∧x.marks.length≤M
 quota:∀ l,ownC row l≤200
theorem length_le_own:∀ (n:Nat) (row:List RC),(∀ x,x ∈ row→x.origin<n)→(∀ l,ownC row l≤200)→row.length≤n*200
 | 0,row,h,_=>by
  cases row with
  | nil=>simp
  | cons x r=>exact absurd (h x (List.mem_cons_self ..)) (Nat.not_lt_zero _)
 | n+1,row,h,hq=>by
  have ih:=length_le_own n (row.filter fun x=>!(x.origin == n)) (fun x hx=>by
   obtain⟨h1,h2⟩:=List.mem_filter.1 hx
   have:=h x h1
   have:¬ x.origin=n:=by simpa using h2
   omega) (fun l=>by
   have h1:=hq l
   unfold ownC at *
   rw [List.filter_filter]
   refine Nat.le_trans (List.Sublist.length_le ?_) h1
   have:(row.filter fun a=>(a.origin == l) && !(a.origin == n))=(row.filter fun a=>a.origin == l).filter fun a=>!(a.origin == n):=by rw [List.filter_filter];congr 1;funext a;exact Bool.and_comm _ _
   rw [this]
   exact List.filter_sublist)
  have hp:row.length=(row.filter fun x=>x.origin == n).length+(row.filter fun x=>!(x.origin == n)).length:=by
   clear ih h hq
   induction row with
   | nil=>rfl
   | cons x r ihr=>cases hx:(x.origin == n) <;> simp [hx,ihr] <;> omega
  have:=hq n
  unfold ownC at this
  rw [Nat.add_mul]
  omega
theorem RowOk.length {c:Cfg} {row:List RC} {M:Nat} (h:RowOk c row M) (hn:c.n≤6):row.length≤1200:=by
 have:=length_le_own c.n row (fun x hx=>(h.cells x hx).1.origin) h.quota
 have:c.n*200≤6*200:=Nat.mul_le_mul_right _ hn
 omega
theorem ownN_own (rows:List (RC × Value)) (l:Nat):ownN rows l rows.length=ownC (rows.map (·.1)) l:=by
 unfold ownN ownC
 rw [List.take_length]
 induction rows with
 | nil=>rfl
 | cons p r ih=>cases h:(p.1.origin == l) <;> simp [h,ih]
theorem putIn_map (rows new:List (RC × Value)) (k:Nat):(putIn rows new k).map (·.1)=(rows.map (·.1)).take k++new.map (·.1)++(rows.map (·.1)).drop k:=by
 unfold putIn;simp [List.map_take,List.map_drop]
theorem putIn_ok {c:Cfg} {rows:List (RC × Value)} {M level k b:Nat} {s:ByteArray} (h:RowOk c (rows.map (·.1)) M) (hl:level<c.n) (hq:ownC (rows.map (·.1)) level+k≤200):RowOk c ((putIn rows (newTo s level k) b).map (·.1)) M:=by
 have hnew:∀ x,x ∈ (newTo s level k).map (·.1)→x.b<256∧x.origin=level∧x.marks=[]:=fun x hx=>by
  unfold newTo at hx
  simp only [List.map_map,List.mem_map] at hx
  obtain⟨j,_,rfl⟩:=hx
  exact⟨UInt8.toNat_lt _,rfl,rfl⟩
 rw [putIn_map]
 generalize hR:rows.map (·.1)=row at *
 refine⟨fun x hx=>?_,fun l=>?_⟩
 ·simp only [List.mem_append] at hx
  rcases hx with (hx|hx)|hx
  ·exact h.cells x (List.mem_of_mem_take hx)
  ·obtain⟨h1,h2,h3⟩:=hnew x hx
   exact⟨⟨h1,by rw [h2];exact hl,fun m hm=>by rw [h3] at hm;cases hm⟩,by rw [h3];simp⟩
  ·exact h.cells x (List.mem_of_mem_drop hx)
 ·have hsum:ownC (row.take b++(newTo s level k).map (·.1)++row.drop b) l=ownC row l+ownC ((newTo s level k).map (·.1)) l:=by
   have:ownC row l=ownC (row.take b) l+ownC (row.drop b) l:=by
    unfold ownC
    rw [← List.length_append,← List.filter_append,List.take_append_drop]
   rw [this]
   unfold ownC
   simp only [List.filter_append,List.length_append]
   omega
  rw [hsum]
  by_cases hll:l=level
  ·subst hll
   have h1:ownC ((newTo s l k).map (·.1)) l≤k:=by
    unfold ownC
    refine Nat.le_trans (List.length_filter_le _ _) ?_
    rw [List.length_map,newTo_length]
    exact Nat.le_refl _
   omega
  ·have h1:ownC ((newTo s level k).map (·.1)) l=0:=by
    unfold ownC
    rw [List.length_eq_zero_iff,List.filter_eq_nil_iff]
    intro x hx
    have:=(hnew x hx).2.1
    simp;omega
   have:=h.quota l
   omega
theorem rdocOk_of {c:Cfg} {rows:List (RC × Value)} {M:Nat} (hl:labelsB c=true) (hlat:¬ c.noLat) (hcfg:CfgOk c) (hr:∀ r,r ∈ c.rules→okL c.labels r.2=true) (h:RowOk c (rows.map (·.1)) M) (hM:M≤140737488355328):RDocOk c rows:=by
 obtain⟨_,_,_,_,_,hn6,_⟩:=labels_of hl
 have hlen:=h.length hn6
 exact⟨hl,hlat,hcfg,hr,fun p hp=>by
  have:=h.cells p.1 (List.mem_map.2 ⟨p,hp,rfl⟩)
  exact⟨this.1,by omega⟩,by simp at hlen;omega⟩
end Go.Proofs.YtgigkiocdiffjaaGreat
