import Derived.Test.YtgigkiocdiffjabU04
import Derived.Deep.MidRow
import Derived.Test.YtgigkiocdiffjabU11
import Derived.Test.YtgigkiocdiffjabU18
import Derived.Test.YtgigkiocdiffjabU07
set_option maxRecDepth 100000
set_option maxHeartbeats 16000000
namespace Go.Proofs.Ytgigkiocdiffjab
open Go.RowKit
def partAt (w:World) (g o n:Nat):Array Value:=(rowAt w g).extract o (o+n)
def partIs (w:World) (g o n:Nat):Prop:=∃ cs t,w.heap[g]?=some (.cells cs t (0,0))∧o+n≤cs.size
def ptrPart (w:World) (v:Value) (n:Nat):Prop:=∃ g o,v=.pointer (some ⟨g,o,none⟩)∧partIs w g o n
def offOf:Value→Nat
 | .pointer (some a)=>a.off
 | _=>0
@[go_sem] theorem partIs_drew (w:World) (g o n:Nat):partIs w.drew g o n=partIs w g o n:=rfl
@[go_sem] theorem partAt_drew (w:World) (g o n:Nat):partAt w.drew g o n=partAt w g o n:=rfl
@[go_sem] theorem ptrPart_ptr (w:World) (g o n:Nat):ptrPart w (.pointer (some ⟨g,o,none⟩)) n=partIs w g o n:=
 propext ⟨fun ⟨g',o',h1,h2⟩=>by cases h1;exact h2,fun h=>⟨g,o,rfl,h⟩⟩
@[go_sem] theorem offOf_ptr (g o:Nat):offOf (.pointer (some ⟨g,o,none⟩))=o:=rfl
@[go_sem] theorem blkOf_ptr' (g o:Nat):blkOf (.pointer (some ⟨g,o,none⟩))=g:=rfl
@[go_sem] theorem ptrIs_off (w:World) (g o n:Nat) (h:0<o):ptrIs w (.pointer (some ⟨g,o,none⟩)) n=False:=
 eq_false fun ⟨g',h1,_⟩=>by cases h1;omega
@[go_sem] def wpPlain3 (P:Program) (o:Oper) (a:Act) (w:World) (K:Act→World→Prop) (Q:Exit→Act→World→Prop):Prop:=o.upon P a K Q ((execOp a.eval o).run P w)
abbrev PartLaw (P:Program) (N:TypeId→Nat):Prop:=∀ (o:Oper) (a:Act) (w:World) (K:Act→World→Prop) (Q:Exit→Act→World→Prop),
  wpPlain2 P o a w K Q=@ite _ (N (loadTy o)≠0∧ptrPart w (a.eval (opFst o)) (N (loadTy o))) (Classical.propDecidable _) (K (a.put o.dst (.agg (partAt w (blkOf (a.eval (opFst o))) (offOf (a.eval (opFst o))) (N (loadTy o))))) w)
   (@ite _ (N (storeTy o)≠0∧ptrPart w (a.eval (opFst o)) (N (storeTy o))∧isAggV (a.eval (opSnd o)) (N (storeTy o))) (Classical.propDecidable _) (K (a.put o.dst undef) (w.setCells (blkOf (a.eval (opFst o))) (offOf (a.eval (opFst o))) (aggOf (a.eval (opSnd o))).toList)) (wpPlain3 P o a w K Q))
theorem there_of_part {w:World} {g o n:Nat} (h:partIs w g o n):w.there g o n:=by
 obtain⟨cs,t,h1,h2⟩:=h
 intro j hj
 rw [cell_of_row _ _ _ _ _ _ h1,frozen_of_row _ _ _ _ _ h1]
 exact⟨by simp;omega,rfl⟩
theorem part_size {w:World} {g o n:Nat} (h:partIs w g o n):(partAt w g o n).size=n:=by
 obtain⟨cs,t,h1,h2⟩:=h
 simp [partAt,rowAt_mk h1];omega
theorem part_law {P:Program} {N:TypeId→Nat} (hN:RowsOk P N):PartLaw P N:=by
 intro o a w K Q
 split
 ·rename_i h
  obtain⟨h0,g,off,hg,hp⟩:=h
  obtain⟨d,hu,hd,hi⟩:=hN.2 _ h0
  have ho:=loadTy_spec (o:=o) (fun e=>h0 (by rw [e];exact hN.1))
  have hsz:=part_size hp
  obtain⟨cs,t',h1,h2⟩:=hp
  generalize loadTy o=ty at *
  generalize opFst o=x at *
  unfold wpPlain2 execOp
  simp only [ho]
  have hr:w.rangeAt g off (partAt w g off (N ty)).toList:=by
   have:=World.rangeAt_of_block h1 off (N ty)
   unfold partAt
   rw [rowAt_mk h1]
   exact this
  have hl:=run_loadVar_mid (P:=P) w g off ty (partAt w g off (N ty)).toList d hr hu (by cases d <;> first|rfl|simp [isRowD] at hd) (by rw [hi,Array.length_toList,hsz])
  simp only [hg,Instr.loadAt,Instr.sureAddr,Sem.run_bind,Sem.run_pure,Result.andThen_ok,blkOf_ptr',offOf_ptr,hl,Array.toArray_toList]
  rfl
 ·split
  ·rename_i _ h
   obtain⟨h0,⟨g,off,hg,hp⟩,cs,hcs,h3,h4⟩:=h
   obtain⟨d,hu,hd,hi⟩:=hN.2 _ h0
   have ho:=storeTy_spec (o:=o) (fun e=>h0 (by rw [e];exact hN.1))
   generalize storeTy o=ty at *
   generalize opFst o=x at *
   generalize opSnd o=y at *
   unfold wpPlain2 execOp
   simp only [ho]
   have hs:=run_storeVar_mid (P:=P) w g off ty cs (by rw [h3];exact there_of_part hp) (by rw [hi,h3]) h4
   simp only [hg,hcs,Instr.storeAt,Instr.sureAddr,Sem.run_bind,Sem.run_pure,Result.andThen_ok,blkOf_ptr',offOf_ptr,aggOf_agg,hs]
   rfl
  ·rfl
def putCells (cs:Array Value):Nat→List Value→Array Value
 | _,[]=>cs
 | o,v :: r=>putCells (cs.setIfInBounds o v) (o+1) r
theorem heap_setCells_same (g:Nat) (t:TypeId):∀ (vs:List Value) (o:Nat) (w:World) (cs:Array Value),w.heap[g]?=some (.cells cs t (0,0))→(w.setCells g o vs).heap[g]?=some (.cells (putCells cs o vs) t (0,0))
 | [],_,_,_,h=>h
 | v :: r,o,w,cs,h=>heap_setCells_same g t r (o+1) _ _ (heap_setCell_same w g o cs t v h)
theorem heap_setCells_other (g k:Nat) (hk:k≠g):∀ (vs:List Value) (o:Nat) (w:World),(w.setCells g o vs).heap[k]?=w.heap[k]?
 | [],_,_=>rfl
 | v :: r,o,w=>(heap_setCells_other g k hk r (o+1) _).trans (heap_setCell_other w ⟨g,o,none⟩ k v hk)
theorem size_setCells (g:Nat):∀ (vs:List Value) (o:Nat) (w:World),(w.setCells g o vs).heap.size=w.heap.size
 | [],_,_=>rfl
 | v :: r,o,w=>(size_setCells g r (o+1) _).trans (by simp [World.setCell])
theorem os_setCells (g:Nat):∀ (vs:List Value) (o:Nat) (w:World),(w.setCells g o vs).os=w.os∧(w.setCells g o vs).tape=w.tape∧(w.setCells g o vs).output=w.output
 | [],_,_=>⟨rfl,rfl,rfl⟩
 | v :: r,o,w=>os_setCells g r (o+1) (w.setCell ⟨g,o,none⟩ v)
theorem putCells_size:∀ (vs:List Value) (o:Nat) (cs:Array Value),(putCells cs o vs).size=cs.size
 | [],_,_=>rfl
 | v :: r,o,cs=>(putCells_size r (o+1) _).trans (by simp)
theorem putCells_get:∀ (vs:List Value) (o:Nat) (cs:Array Value) (i:Nat),o+vs.length≤cs.size→(putCells cs o vs)[i]?=if o≤i∧i<o+vs.length then vs[i-o]? else cs[i]?
 | [],o,cs,i,_=>by rw [if_neg (by simp only [List.length_nil];omega)];rfl
 | v :: r,o,cs,i,h=>by
  simp only [List.length_cons] at h
  rw [putCells,putCells_get r (o+1) _ i (by simp;omega)]
  by_cases h1:o+1≤i∧i<o+1+r.length
  ·rw [if_pos h1,if_pos (by simp only [List.length_cons];omega)]
   obtain⟨k,hk⟩:∃ k,i-o=k+1:=⟨i-o-1,by omega⟩
   rw [hk,List.getElem?_cons_succ,show i-(o+1)=k by omega]
  ·rw [if_neg h1,Array.getElem?_setIfInBounds]
   by_cases h2:o=i
   ·subst h2
    rw [if_pos rfl,if_pos (by omega),if_pos (by simp)]
    simp
   ·rw [if_neg h2,if_neg (by simp only [List.length_cons];omega)]
theorem below_setCells {B g:Nat} {w w':World} (h:Below B w w') (hg:B≤g) (o:Nat) (vs:List Value):Below B w (w'.setCells g o vs):=
 ⟨(os_setCells g vs o w').1.trans h.os,(os_setCells g vs o w').2.1.trans h.tape,(os_setCells g vs o w').2.2.trans h.output,by rw [size_setCells];exact h.size,fun k hk=>(heap_setCells_other g k (by omega) vs o w').trans (h.block k hk)⟩
theorem putCells_whole (vs:List Value) (cs:Array Value) (h:cs.size=vs.length):putCells cs 0 vs=vs.toArray:=by
 apply Array.ext_getElem?
 intro i
 rw [putCells_get _ _ _ _ (by omega)]
 by_cases hi:i<vs.length
 ·rw [if_pos (by omega)];simp
 ·rw [if_neg (by omega),Array.getElem?_eq_none (by omega)];simp only [List.getElem?_toArray];rw [List.getElem?_eq_none (by omega)]
end Go.Proofs.Ytgigkiocdiffjab
namespace Go.Proofs.Ytgigkiocdiffjab
open Go.RowKit Veil
def cellG (b o:Nat) (G:Nat→Bool) (L:Nat→Nat) (F:Nat→Bool):List Value:=.int .u8 b :: .int .i64 o :: (List.range 6).flatMap fun d=>[.bool (G d),.int .i64 (L d),.bool (F d)]
theorem cellG_length (b o:Nat) (G:Nat→Bool) (L:Nat→Nat) (F:Nat→Bool):(cellG b o G L F).length=20:=by simp [cellG,List.range,List.range.loop]
section
variable (b o:Nat) (G:Nat→Bool) (L:Nat→Nat) (F:Nat→Bool)
theorem cellG_get (d j:Nat) (hd:d<6) (hj:j<3):(cellG b o G L F)[2+d*3+j]?=([Value.bool (G d),.int .i64 (L d),.bool (F d)]:List Value)[j]?:=by
 have h:=flat_get (f:=fun d=>[Value.bool (G d),.int .i64 (L d),.bool (F d)]) (sz:=3) (fun _=>rfl) (List.range 6) d d j (by simp [hd]) hj
 rw [show 2+d*3+j=(d*3+j)+1+1 by omega]
 exact h
theorem cellG_gone (d:Nat) (hd:d<6):(cellG b o G L F)[2+d*3]?=some (.bool (G d)):=cellG_get b o G L F d 0 hd (by decide)
theorem cellG_lab (d:Nat) (hd:d<6):(cellG b o G L F)[2+d*3+1]?=some (.int .i64 (L d)):=cellG_get b o G L F d 1 hd (by decide)
theorem cellG_free (d:Nat) (hd:d<6):(cellG b o G L F)[2+d*3+2]?=some (.bool (F d)):=cellG_get b o G L F d 2 hd (by decide)
theorem cellG_ext {l l':List Value} (h1:l.length=20) (h2:l'.length=20) (h3:l[0]?=l'[0]?) (h4:l[1]?=l'[1]?) (h5:∀ d j,d<6→j<3→l[2+d*3+j]?=l'[2+d*3+j]?):l=l':=by
 apply List.ext_getElem?
 intro i
 by_cases hi:i<20
 ·by_cases h0:i=0
  ·rw [h0];exact h3
  ·by_cases hone:i=1
   ·rw [hone];exact h4
   ·have:=h5 ((i-2) / 3) ((i-2) % 3) (by omega) (by omega)
    rw [show 2+(i-2) / 3*3+(i-2) % 3=i by omega] at this
    exact this
 ·rw [List.getElem?_eq_none (by omega),List.getElem?_eq_none (by omega)]
theorem three (x y z:Value) (j:Nat) (u:Value) (j0:Nat) (h0:j0<3):(if j0=j then some u else ([x,y,z]:List Value)[j]?)=(([x,y,z]:List Value).set j0 u)[j]?:=by
 rw [List.getElem?_set]
 by_cases h:j0=j
 ·rw [if_pos h,if_pos h,if_pos (by simpa using h0)]
 ·rw [if_neg h,if_neg h]
theorem cellG_set (d0 j0:Nat) (u:Value) (G':Nat→Bool) (L':Nat→Nat) (F':Nat→Bool) (hd:d0<6) (hj:j0<3) (hs:([Value.bool (G d0),.int .i64 (L d0),.bool (F d0)]:List Value).set j0 u=[.bool (G' d0),.int .i64 (L' d0),.bool (F' d0)]) (ho:∀ d,d<6→d≠d0→G' d=G d∧L' d=L d∧F' d=F d) :
  (cellG b o G L F).set (2+d0*3+j0) u=cellG b o G' L' F':=by
 refine cellG_ext (by rw [List.length_set,cellG_length]) (cellG_length ..) ?_ ?_ (fun d j h1 h2=>?_)
 ·rw [List.getElem?_set,if_neg (by omega)];rfl
 ·rw [List.getElem?_set,if_neg (by omega)];rfl
 ·rw [List.getElem?_set,cellG_get _ _ _ _ _ _ _ h1 h2,cellG_get _ _ _ _ _ _ _ h1 h2,cellG_length]
  by_cases hdd:d=d0
  ·subst hdd
   rw [← hs,← three _ _ _ j u j0 hj]
   by_cases hjj:j0=j
   ·rw [if_pos (by omega),if_pos (by omega),if_pos hjj]
   ·rw [if_neg (by omega),if_neg hjj]
  ·rw [if_neg (by omega)]
   obtain⟨e1,e2,e3⟩:=ho d h1 hdd
   rw [e1,e2,e3]
theorem cellG_one:∀ v,v ∈ cellG b o G L F→v.oneCell'=true:=by
 intro v hv
 simp only [cellG,List.mem_cons,List.mem_flatMap] at hv
 rcases hv with rfl|rfl|⟨d,_,hv⟩
 ·rfl
 ·rfl
 ·simp at hv;rcases hv with rfl|rfl|rfl <;> rfl
theorem cellG_ok:okRow (cellG b o G L F).toArray 20:=⟨by simp [cellG_length],all_oneCell_toArray (cellG_one b o G L F)⟩
theorem cellG_congr {G G':Nat→Bool} {L L':Nat→Nat} {F F':Nat→Bool} (h:∀ d,d<6→G d=G' d∧L d=L' d∧F d=F' d):cellG b o G L F=cellG b o G' L' F':=by
 refine cellG_ext (cellG_length ..) (cellG_length ..) rfl rfl (fun d j h1 h2=>?_)
 rw [cellG_get _ _ _ _ _ _ _ h1 h2,cellG_get _ _ _ _ _ _ _ h1 h2]
 obtain⟨e1,e2,e3⟩:=h d h1
 rw [e1,e2,e3]
end
theorem Try.sizePCell:(Try.prog.info? 140).map (·.size)=some 20:=by kernel_rfl
@[go_sem] def rowN3 (t:TypeId):Nat:=if t=140 then 20 else if t=84 then 37 else 0
theorem rowN3_ok:RowsOk Try.prog rowN3:=by
 refine⟨rfl,fun ty h=>?_⟩
 unfold rowN3 at *
 split at h
 ·subst_vars;exact⟨_,Try.underlying140,rfl,Try.sizePCell⟩
 ·split at h
  ·subst_vars;exact⟨_,Try.underlying84,rfl,Try.sizeOrder⟩
  ·exact absurd rfl h
@[go_sem ↓] theorem parts_row:PartLaw Try.prog rowN3:=part_law rowN3_ok
attribute [go_sem] size_setCells
def CellAt (w:World) (g b o:Nat) (G:Nat→Bool) (L:Nat→Nat) (F:Nat→Bool):Prop:=w.heap[g]?=some (.cells (cellG b o G L F).toArray 140 (0,0))
section
variable {w w':World} {g b o B:Nat} {G G':Nat→Bool} {L L':Nat→Nat} {F F':Nat→Bool}
theorem CellAt.below (h:CellAt w g b o G L F) (hb:Below B w w') (hg:g<B):CellAt w' g b o G L F:=Below.row hb h hg
theorem CellAt.lt (h:CellAt w g b o G L F):g<w.heap.size:=lt_of_row h
theorem CellAt.is (h:CellAt w g b o G L F):partIs w g 0 20:=⟨_,_,h,by simp [cellG_length]⟩
theorem CellAt.at (h:CellAt w g b o G L F):partAt w g 0 20=(cellG b o G L F).toArray:=by
 unfold partAt
 rw [rowAt_mk h]
 have:(cellG b o G L F).toArray.size=20:=by simp [cellG_length]
 rw [Nat.zero_add,← this,Array.extract_size]
theorem CellAt.frozen (h:CellAt w g b o G L F) (j:Nat):w.frozen? ⟨g,j,none⟩=false:=frozen_of_row _ _ _ _ _ h
theorem CellAt.byte (h:CellAt w g b o G L F):w.cell? ⟨g,0,none⟩=some (.int .u8 b):=by rw [cell_of_row _ _ _ _ _ _ h];rfl
theorem CellAt.origin (h:CellAt w g b o G L F):w.cell? ⟨g,1,none⟩=some (.int .i64 o):=by rw [cell_of_row _ _ _ _ _ _ h];rfl
theorem CellAt.gone (h:CellAt w g b o G L F) (d:Nat) (hd:d<6):w.cell? ⟨g,2+d*3,none⟩=some (.bool (G d)):=by rw [cell_of_row _ _ _ _ _ _ h,List.getElem?_toArray,cellG_gone _ _ _ _ _ _ hd]
theorem CellAt.lab (h:CellAt w g b o G L F) (d:Nat) (hd:d<6):w.cell? ⟨g,2+d*3+1,none⟩=some (.int .i64 (L d)):=by rw [cell_of_row _ _ _ _ _ _ h,List.getElem?_toArray,cellG_lab _ _ _ _ _ _ hd]
theorem CellAt.free (h:CellAt w g b o G L F) (d:Nat) (hd:d<6):w.cell? ⟨g,2+d*3+2,none⟩=some (.bool (F d)):=by rw [cell_of_row _ _ _ _ _ _ h,List.getElem?_toArray,cellG_free _ _ _ _ _ _ hd]
theorem CellAt.set (h:CellAt w g b o G L F) {d j:Nat} {u:Value} (hd:d<6) (hj:j<3) (hs:([Value.bool (G d),.int .i64 (L d),.bool (F d)]:List Value).set j u=[.bool (G' d),.int .i64 (L' d),.bool (F' d)]) (ho:∀ i,i<6→i≠d→G' i=G i∧L' i=L i∧F' i=F i):CellAt (w.setCell ⟨g,2+d*3+j,none⟩ u) g b o G' L' F':=by
 unfold CellAt
 rw [heap_setCell_same _ _ _ _ _ _ h,← cellG_set b o G L F d j u G' L' F' hd hj hs ho,List.setIfInBounds_toArray]
theorem CellAt.store (h:CellAt w g b o G L F) (vs:List Value) (hv:vs.length=20):(w.setCells g 0 vs).heap[g]?=some (.cells vs.toArray 140 (0,0)):=by
 rw [heap_setCells_same g _ vs 0 w _ h,putCells_whole vs _ (by simp [cellG_length,hv])]
theorem cell_new (w:World) (b o:Nat) (G:Nat→Bool) (L:Nat→Nat) (F:Nat→Bool):CellAt (w.alloc (.cells (cellG b o G L F).toArray 140)) w.heap.size b o G L F:=Go.heap_alloc_new _ _
end
def noB:Nat→Bool:=fun _=>false
def noL:Nat→Nat:=fun _=>0
theorem cellG_build (b o:Nat):(cellG b o noB noL noB).toArray=#[.int .u8 b,.int .i64 o,.bool false,.int .i64 0,.bool false,.bool false,.int .i64 0,.bool false,.bool false,.int .i64 0,.bool false,.bool false,.int .i64 0,.bool false,.bool false,.int .i64 0,.bool false,.bool false,.int .i64 0,.bool false]:=rfl
theorem wpList_alloc_cell {w:World} {ops:Array Oper} {rest:List Oper} {o:Oper} {a:Act} {Q:Exit→Act→World→Prop} (hgd:o.guard=none) (ho:o.op=.alloc 140)
  (h:wpList Try.prog ops Q rest (a.put o.dst (.pointer (some ⟨w.heap.size,0,none⟩))) (w.alloc (.cells (cellG 0 0 noB noL noB).toArray 140))):wpList Try.prog ops Q (o :: rest) a w:=by
 refine wpList_plain hgd fun K hK=>?_
 have h':=hK _ _ h
 rw [cellG_build] at h'
 clear hK h
 obtain⟨dst,op,ty,pos,aft,gd⟩:=o
 simp only at ho
 subst ho
 go_simp
 exact h'
theorem built_cell (b o:Int):(Try.prog.built 140 [(0,.int .u8 b),(1,.int .i64 o)]).getD #[]=#[.int .u8 b,.int .i64 o,.bool false,.int .i64 0,.bool false,.bool false,.int .i64 0,.bool false,.bool false,.int .i64 0,.bool false,.bool false,.int .i64 0,.bool false,.bool false,.int .i64 0,.bool false,.bool false,.int .i64 0,.bool false]:=by kernel_rfl
theorem built_cell' (b o:Int):(Try.prog.built 140 [(0,.int .u8 b),(1,.int .i64 o)]).isSome=true:=by kernel_rfl
end Go.Proofs.Ytgigkiocdiffjab
namespace Go.Proofs.Ytgigkiocdiffjab
open Go.RowKit Veil
theorem wpList_build_cell {w:World} {ops:Array Oper} {rest:List Oper} {o:Oper} {a:Act} {Q:Exit→Act→World→Prop} (hgd:o.guard=none) (x y:Operand) (b n:Nat) (ho:o.op=.build 140 #[(0,x),(1,y)]) (hx:a.eval x=.int .u8 b) (hy:a.eval y=.int .i64 n)
  (h:wpList Try.prog ops Q rest (a.put o.dst (.agg (cellG b n noB noL noB).toArray)) w):wpList Try.prog ops Q (o :: rest) a w:=by
 refine wpList_build hgd 140 #[(0,x),(1,y)] ho (by simp only [List.map_toArray,List.map_cons,List.map_nil,hx,hy];exact built_cell' b n) ?_
 simp only [List.map_toArray,List.map_cons,List.map_nil,hx,hy]
 rw [built_cell b n]
 rw [cellG_build] at h
 exact h
theorem res_cell {fn:Func} {p:Tmp} (h:fn.results=#[.cell p 140]) (tmps:Array Value) (w:World) (g:Nat) (vs:List Value) (hv:vs.length=20) (hp:tmps.getD p undef=.pointer (some ⟨g,0,none⟩)) (hg:w.heap[g]?=some (.cells vs.toArray 140 (0,0))) :
  (results fn tmps).run Try.prog w=.ok (.agg vs.toArray) w:=results_cell_row h tmps w g 140 vs.toArray (0,0) _ hp hg Try.underlying140 rfl (by rw [Try.sizePCell];simp [hv])
def labK (o k:Nat):Nat→Nat:=fun d=>if d<k then o else 0
theorem labK_zero (o:Nat):labK o 0=noL:=rfl
theorem labK_at (o k:Nat):labK o (k+1) k=o:=by simp [labK]
theorem labK_other (o k d:Nat) (h:d≠k):labK o (k+1) d=labK o k d:=by
 unfold labK
 by_cases hd:d<k
 ·rw [if_pos hd,if_pos (by omega)]
 ·rw [if_neg hd,if_neg (by omega)]
theorem newCell_any (b o:Nat) (w:World) :
  Calls Try.prog 65 #[.int .u8 b,.int .i64 o] w fun e w'=>e=.returned (.agg (cellG b o noB (fun _=>o) noB).toArray)∧Below w.heap.size w w':=by
 have HA1:=hide (cell_new w 0 0 noB noL noB)
 have hb1:=below_box w (.cells (cellG 0 0 noB noL noB).toArray 140)
 have HA2:=hide (cell_new (w.alloc (.cells (cellG 0 0 noB noL noB).toArray 140)) 0 0 noB noL noB)
 have hs1:(w.alloc (.cells (cellG 0 0 noB noL noB).toArray 140)).heap.size=w.heap.size+1:=by simp
 rw [hs1] at HA2
 have i2:=HA2.out.is
 have k0:=cellG_ok b o noB noL noB
 have hb2:Below w.heap.size w ((w.alloc (.cells (cellG 0 0 noB noL noB).toArray 140)).alloc (.cells (cellG 0 0 noB noL noB).toArray 140)):=hb1.alloc hb1.size _
 have HA3:Hid (CellAt ((w.alloc (.cells (cellG 0 0 noB noL noB).toArray 140)).alloc (.cells (cellG 0 0 noB noL noB).toArray 140)) w.heap.size 0 0 noB noL noB):=row_alloc' HA1.out
 have HB1:Hid (CellAt (((w.alloc (.cells (cellG 0 0 noB noL noB).toArray 140)).alloc (.cells (cellG 0 0 noB noL noB).toArray 140)).setCells (w.heap.size+1) 0 (cellG b o noB noL noB)) (w.heap.size+1) b o noB noL noB):=HA2.out.store _ (cellG_length ..)
 have HB2:Hid (CellAt (((w.alloc (.cells (cellG 0 0 noB noL noB).toArray 140)).alloc (.cells (cellG 0 0 noB noL noB).toArray 140)).setCells (w.heap.size+1) 0 (cellG b o noB noL noB)) w.heap.size 0 0 noB noL noB):=(heap_setCells_other _ _ (by omega) _ _ _).trans HA3.out
 have hb3:=below_setCells hb2 (show w.heap.size≤w.heap.size+1 by omega) 0 (cellG b o noB noL noB)
 clear hb1 hb2 hs1
 go_enter Try.func65,Try.ntmps65
 go_wp2_with (first|(refine wpList_alloc_cell rfl rfl ?_)|(refine wpList_build_cell rfl (.tmp 7) (.tmp 8) b o rfl rfl rfl ?_))
 go_loopw [6] (fun i wr=>∃ k:Nat,k≤6∧i=.int .i64 k∧CellAt wr (w.heap.size+1) b o noB (labK o k) noB∧CellAt wr w.heap.size 0 0 noB noL noB∧Below w.heap.size w wr) (fun i _=>6-(intOf i).toNat)
 case atStart=>exact⟨0,by omega,rfl,by rw [labK_zero];exact HB1.out,HB2.out,hb3⟩
 case round=>
  clear HA1 HA2 HA3 HB1 HB2 hb3 i2
  obtain⟨wo,rfl⟩:∃ x,x=wr:=⟨_,rfl⟩
  obtain⟨k,hk,rfl,hc1,hc2,hbel⟩:=hrel
  have H1:=hide hc1
  have H2:=hide hc2
  by_cases hlt:k<6
  ·have hki:(k:Int)<6:=by omega
   have l1:=hc1.lab k hlt
   have f1:=hc1.frozen (2+k*3+1)
   have HS1:Hid (CellAt (wo.setCell ⟨w.heap.size+1,2+k*3+1,none⟩ (.int .i64 o)) (w.heap.size+1) b o noB (labK o (k+1)) noB):=hc1.set hlt (by omega) (by rw [labK_at];rfl) (fun i _ hne=>⟨rfl,labK_other _ _ _ hne,rfl⟩)
   have HS2:Hid (CellAt (wo.setCell ⟨w.heap.size+1,2+k*3+1,none⟩ (.int .i64 o)) w.heap.size 0 0 noB noL noB):=row_other hc2 (by omega)
   have hbS:Below w.heap.size w (wo.setCell ⟨w.heap.size+1,2+k*3+1,none⟩ (.int .i64 o)):=hbel.setCell (by dsimp only;omega) _
   clear hc1 hc2
   go_wp2
   go_roundw
   case rel=>exact⟨k+1,by omega,by go_num,HS1.out,HS2.out,hbS⟩
   case measure=>simp [intOf];omega
  ·obtain rfl:k=6:=by omega
   have i1:=hc1.is
   have a1:=hc1.at
   have i2:=hc2.is
   have k1:=cellG_ok b o noB (labK o 6) noB
   have HS:=hide (hc2.store (cellG b o noB (labK o 6) noB) (cellG_length ..))
   have hbS:=below_setCells hbel (Nat.le_refl _) 0 (cellG b o noB (labK o 6) noB)
   have HEQ:=hide (cellG_congr b o (G:=noB) (G':=noB) (L:=labK o 6) (L':=fun _=>o) (F:=noB) (F':=noB) (fun d hd=>⟨rfl,by simp [labK,hd],rfl⟩))
   clear hc1 hc2
   go_wp2
   exact bodyPost_ret (res_cell Try.results65 _ _ w.heap.size _ (cellG_length ..) (by simp) HS.out) rfl ⟨by rw [HEQ.out],hbS⟩
def PRowAt (w:World) (g q n:Nat) (f:Nat→Nat→Bool) (pv:Value):Prop:=∃ cs t,w.heap[g]?=some (.cells cs t (0,0))∧cs.extract q (q+37)=ordC n f∧cs[q+37]?=some pv
section
variable {w w':World} {g q n B:Nat} {f:Nat→Nat→Bool} {pv:Value}
theorem PRowAt.below (h:PRowAt w g q n f pv) (hb:Below B w w') (hg:g<B):PRowAt w' g q n f pv:=by
 obtain⟨cs,t,h1,h2⟩:=h
 exact⟨cs,t,Below.row hb h1 hg,h2⟩
theorem PRowAt.lt (h:PRowAt w g q n f pv):g<w.heap.size:=by
 obtain⟨cs,t,h1,h2⟩:=h
 exact lt_of_row h1
theorem PRowAt.is (h:PRowAt w g q n f pv):partIs w g q 37:=by
 obtain⟨cs,t,h1,h2,h3⟩:=h
 refine⟨cs,t,h1,?_⟩
 have:=(Array.getElem?_eq_some_iff.1 h3).1
 omega
theorem PRowAt.at (h:PRowAt w g q n f pv):partAt w g q 37=ordC n f:=by
 obtain⟨cs,t,h1,h2,h3⟩:=h
 unfold partAt
 rw [rowAt_mk h1,h2]
theorem PRowAt.cells (h:PRowAt w g q n f pv):w.cell? ⟨g,q+37,none⟩=some pv:=by
 obtain⟨cs,t,h1,h2,h3⟩:=h
 rw [cell_of_row _ _ _ _ _ _ h1,h3]
theorem PRowAt.frozen (h:PRowAt w g q n f pv) (j:Nat):w.frozen? ⟨g,j,none⟩=false:=by
 obtain⟨cs,t,h1,h2,h3⟩:=h
 exact frozen_of_row _ _ _ _ _ h1
end
def upK (p:Nat→Bool) (x:Bool) (G:Nat→Bool) (k:Nat):Nat→Bool:=fun d=>bif decide (d<k) && p d then x else G d
def upL (p:Nat→Bool) (x:Nat→Nat) (L:Nat→Nat) (k:Nat):Nat→Nat:=fun d=>bif decide (d<k) && p d then x d else L d
section
variable {p:Nat→Bool} {x:Bool} {G:Nat→Bool} {y L:Nat→Nat} {k d:Nat}
theorem upK_zero:upK p x G 0=G:=by funext d;simp [upK]
theorem upL_zero:upL p y L 0=L:=by funext d;simp [upL]
theorem upL_at:upL p y L k k=L k:=by simp [upL]
theorem upK_yes (h:p k=true):upK p x G (k+1) k=x:=by simp [upK,h]
theorem upL_yes (h:p k=true):upL p y L (k+1) k=y k:=by simp [upL,h]
theorem upK_other (h:d≠k):upK p x G (k+1) d=upK p x G k d:=by
 unfold upK
 have:decide (d<k+1)=decide (d<k):=by rw [decide_eq_decide];omega
 rw [this]
theorem upL_other (h:d≠k):upL p y L (k+1) d=upL p y L k d:=by
 unfold upL
 have:decide (d<k+1)=decide (d<k):=by rw [decide_eq_decide];omega
 rw [this]
theorem upK_no (h:p k=false):upK p x G (k+1)=upK p x G k:=by
 funext d
 by_cases hd:d=k
 ·subst hd;simp [upK,h]
 ·exact upK_other hd
theorem upL_no (h:p k=false):upL p y L (k+1)=upL p y L k:=by
 funext d
 by_cases hd:d=k
 ·subst hd;simp [upL,h]
 ·exact upL_other hd
end
def leD (n:Nat) (f:Nat→Nat→Bool) (a:Nat):Nat→Bool:=fun d=>leO n f a d
theorem deleted_any (b o:Nat) (G:Nat→Bool) (L:Nat→Nat) (F:Nat→Bool) (g q n:Nat) (f:Nat→Nat→Bool) (pv:Value) (lv:Nat) (w:World) (hr:PRowAt w g q n f pv) (hn:n≤6) (hq:0<q) :
  Calls Try.prog 70 #[.pointer (some ⟨g,q,none⟩),.agg (cellG b o G L F).toArray,.int .i64 lv] w fun e w'=>e=.returned (.agg (cellG b o (upK (leD n f lv) true G 6) L F).toArray)∧Below w.heap.size w w':=by
 have HA1:=hide (cell_new w b o G L F)
 have hb1:=below_box w (.cells (cellG b o G L F).toArray 140)
 have HA2:=hide (cell_new (w.alloc (.cells (cellG b o G L F).toArray 140)) 0 0 noB noL noB)
 have hs1:(w.alloc (.cells (cellG b o G L F).toArray 140)).heap.size=w.heap.size+1:=by simp
 rw [hs1] at HA2
 have hb2:Below w.heap.size w ((w.alloc (.cells (cellG b o G L F).toArray 140)).alloc (.cells (cellG 0 0 noB noL noB).toArray 140)):=hb1.alloc hb1.size _
 have HA3:Hid (CellAt ((w.alloc (.cells (cellG b o G L F).toArray 140)).alloc (.cells (cellG 0 0 noB noL noB).toArray 140)) w.heap.size b o G L F):=row_alloc' HA1.out
 have HLQ:=hide (fun (d:Nat) (w':World)=>oleq_any n f lv d w' hn)
 have HR:=hide hr
 have hgl:=hr.lt
 clear hb1 hs1 hr
 go_enter Try.func70,Try.ntmps70
 go_wp2_with (first|(refine wpList_alloc_cell rfl rfl ?_))
 go_loopw [7] (fun i wr=>∃ k:Nat,k≤6∧i=.int .i64 k∧CellAt wr w.heap.size b o (upK (leD n f lv) true G k) L F∧CellAt wr (w.heap.size+1) 0 0 noB noL noB∧Below w.heap.size w wr) (fun i _=>6-(intOf i).toNat)
 case atStart=>exact⟨0,by omega,rfl,by rw [upK_zero];exact HA3.out,HA2.out,hb2⟩
 case round=>
  clear HA1 HA2 HA3 hb2
  obtain⟨wo,rfl⟩:∃ x,x=wr:=⟨_,rfl⟩
  obtain⟨k,hk,rfl,hc1,hc2,hbel⟩:=hrel
  have H1:=hide hc1
  have H2:=hide hc2
  by_cases hlt:k<6
  ·have hki:(k:Int)<6:=by omega
   have HRo:=hide (HR.out.below hbel hgl)
   have i0:=HRo.out.is
   have a0:=HRo.out.at
   have HQ1:=hide (HLQ.out k wo)
   have HP:=hide (show leD n f lv k=leO n f lv k from rfl)
   clear hc1 hc2
   go_wp2_with fail
   refine (HQ1.out).mono ?_
   rintro e w3 ⟨rfl,hb3⟩
   have hbel3:=hbel.trans (hb3.mono hbel.size)
   have H1c:=hide (H1.out.below hb3 H1.out.lt)
   have H2c:=hide (H2.out.below hb3 H2.out.lt)
   clear i0 a0 hb3
   cases hle:leO n f lv k
   ·rw [hle] at HP
    have HNO:=hide (upK_no (x:=true) (G:=G) HP.out)
    go_wp2
    go_roundw
    case rel=>exact⟨k+1,by omega,by go_num,by rw [HNO.out];exact H1c.out,H2c.out,hbel3⟩
    case measure=>simp [intOf];omega
   ·rw [hle] at HP
    have l1:=H1c.out.gone k hlt
    have f1:=H1c.out.frozen (2+k*3)
    have HS1:Hid (CellAt (w3.setCell ⟨w.heap.size,2+k*3,none⟩ (.bool true)) w.heap.size b o (upK (leD n f lv) true G (k+1)) L F):=H1c.out.set (j:=0) hlt (by omega) (by rw [upK_yes HP.out];rfl) (fun i _ hne=>⟨upK_other hne,rfl,rfl⟩)
    have HS2:Hid (CellAt (w3.setCell ⟨w.heap.size,2+k*3,none⟩ (.bool true)) (w.heap.size+1) 0 0 noB noL noB):=row_other H2c.out (by omega)
    have hbS:Below w.heap.size w (w3.setCell ⟨w.heap.size,2+k*3,none⟩ (.bool true)):=hbel3.setCell (by dsimp only;omega) _
    go_wp2
    go_roundw
    case rel=>exact⟨k+1,by omega,by go_num,HS1.out,HS2.out,hbS⟩
    case measure=>simp [intOf];omega
  ·obtain rfl:k=6:=by omega
   have i1:=hc1.is
   have a1:=hc1.at
   have i2:=hc2.is
   have k1:=cellG_ok b o (upK (leD n f lv) true G 6) L F
   have HS:=hide (hc2.store (cellG b o (upK (leD n f lv) true G 6) L F) (cellG_length ..))
   have hbS:=below_setCells hbel (show w.heap.size≤w.heap.size+1 by omega) 0 (cellG b o (upK (leD n f lv) true G 6) L F)
   clear hc1 hc2
   go_wp2
   exact bodyPost_ret (res_cell Try.results70 _ _ (w.heap.size+1) _ (cellG_length ..) (by simp) HS.out) rfl ⟨rfl,hbS⟩
end Go.Proofs.Ytgigkiocdiffjab
namespace Go.Proofs.Ytgigkiocdiffjab
open Go.RowKit Veil
theorem exec_load_ord {w:World} {g q n:Nat} {f:Nat→Nat→Bool} {ev:Operand→Value} {o:Oper} {x:Operand} (ho:o.op=.load 84 x) (hx:ev x=.pointer (some ⟨g,q,none⟩)) (hp:partIs w g q 37) (ha:partAt w g q 37=ordC n f):(execOp ev o).run Try.prog w=.ok (.value (.agg (ordC n f))) w:=by
 obtain⟨cs,t',h1,h2⟩:=hp
 have hr:w.rangeAt g q (ordC n f).toList:=by
  have:=World.rangeAt_of_block h1 q 37
  rw [← ha]
  unfold partAt
  rw [rowAt_mk h1]
  exact this
 have hl:=run_loadVar_mid (P:=Try.prog) w g q 84 (ordC n f).toList _ hr Try.underlying84 rfl (by rw [Try.sizeOrder,Array.length_toList,ordC_size])
 unfold execOp
 simp only [ho,hx,Instr.loadAt,Instr.sureAddr,Sem.run_bind,Sem.run_pure,Result.andThen_ok,hl,Array.toArray_toList]
def thereP (n:Nat) (f:Nat→Nat→Bool) (o:Nat) (G:Nat→Bool) (lv:Nat):Bool:=leO n f o lv && !G lv
theorem isThere_any (b o:Nat) (G:Nat→Bool) (L:Nat→Nat) (F:Nat→Bool) (g q n:Nat) (f:Nat→Nat→Bool) (pv:Value) (lv:Nat) (w:World) (hr:PRowAt w g q n f pv) (hn:n≤6) (hq:0<q) :
  Calls Try.prog 85 #[.pointer (some ⟨g,q,none⟩),.agg (cellG b o G L F).toArray,.int .i64 lv] w fun e w'=>e=.returned (.bool (thereP n f o G lv))∧Below w.heap.size w w':=by
 have HA1:=hide (cell_new w b o G L F)
 have hb1:=below_box w (.cells (cellG b o G L F).toArray 140)
 have HR:=hide hr
 have hgl:=hr.lt
 have HR1:=hide (show PRowAt (w.alloc (.cells (cellG b o G L F).toArray 140)).drew g q n f pv from HR.out.below hb1.drew hgl)
 have i0:=HR1.out.is
 have a0:=HR1.out.at
 have o0:=HA1.out.origin
 have HQ1:=hide (oleq_any n f o lv ((w.alloc (.cells (cellG b o G L F).toArray 140)).drew) hn)
 have HD:=hide (show thereP n f o G lv=(leO n f o lv && !G lv) from rfl)
 have hlt1:=HR1.out.lt
 have hw1:w.heap.size<(w.alloc (.cells (cellG b o G L F).toArray 140)).heap.size:=by simp
 clear hr
 cases hle:leO n f o lv
 ·rw [hle] at HQ1 HD
  clear hle
  go_enter Try.func85,Try.ntmps85
  go_wp2_with fail
  refine wp_region_held_drew (S:=(fun w'=>(partIs w' g q 37∧partAt w' g q 37=ordC n f)∧w'.cell? ⟨w.heap.size,1,none⟩=some (.int .i64 o))) (by kernel_rfl) ?_ (fun hHeld=>?_)
  ·exact⟨⟨i0,a0⟩,o0⟩
  refine tV 0 7 ?_
  (try simp only [Act.put,lA,lZ,lS])
  refine tV 1 8 ?_
  (try simp only [Act.put,lA,lZ,lS])
  refine tV 2 9 ?_
  (try simp only [Act.put,lA,lZ,lS])
  refine tW 3 10 (.agg (ordC n f)) ?_ ?_
  ·(intro o ho w hSw;obtain rfl:=Option.some.inj ho;clear ho;exact exec_load_ord rfl rfl hSw.1.1 hSw.1.2)
  (try simp only [Act.put,lA,lZ,lS])
  refine tV 4 11 ?_
  (try simp only [Act.put,lA,lZ,lS])
  refine tV 5 12 ?_
  (try simp only [Act.put,lA,lZ,lS])
  refine tV 6 13 ?_
  (try simp only [Act.put,lA,lZ,lS])
  refine wpAnyH_ready (rs:=[7]) (by kernel_rfl) (by simp) ?_
  refine AllReadyH.cons rfl (fun K hK=>?_) AllReadyH.nil
  go_simp
  go_wp2_with (go_at_call 66;refine (HQ1.out).mono ?_;rintro e w3 ⟨rfl,hb3⟩;have HR3:=hide (HR1.out.below hb3 hlt1);have i3:=HR3.out.is;have a3:=HR3.out.at;have o3:=(hb3.cell (p:=⟨w.heap.size,1,none⟩) hw1).trans o0)
  refine hK.out _ _ ?_ (fun hHeld=>?_)
  ·exact⟨⟨i3,a3⟩,o3⟩
  clear hK K
  refine tV 8 15 ?_
  (try simp only [Act.put,lA,lZ,lS])
  refine takeU 9 (some 16) rfl rfl (by kernel_rfl) (by kernel_rfl) (by kernel_rfl) (fun _ _ _ h=>h) (by assumption) ?_
  (try simp only [Act.put,lA,lZ,lS])
  refine takeU 10 (some 17) rfl rfl (by kernel_rfl) (by kernel_rfl) (by kernel_rfl) (fun _ _ _ h=>h) (by assumption) ?_
  (try simp only [Act.put,lA,lZ,lS])
  refine takeU 11 (some 18) rfl rfl (by kernel_rfl) (by kernel_rfl) (by kernel_rfl) (fun _ _ _ h=>h) (by assumption) ?_
  (try simp only [Act.put,lA,lZ,lS])
  refine takeU 12 (some 19) rfl rfl (by kernel_rfl) (by kernel_rfl) (by kernel_rfl) (fun _ _ _ h=>h) (by assumption) ?_
  (try simp only [Act.put,lA,lZ,lS])
  refine takeU 13 (some 20) rfl rfl (by kernel_rfl) (by kernel_rfl) (by kernel_rfl) (fun _ _ _ h=>h) (by assumption) ?_
  (try simp only [Act.put,lA,lZ,lS])
  refine takeU 14 (some 21) rfl rfl (by kernel_rfl) (by kernel_rfl) (by kernel_rfl) (fun _ _ _ h=>h) (by assumption) ?_
  (try simp only [Act.put,lA,lZ,lS])
  refine tV 15 22 ?_
  (try simp only [Act.put,lA,lZ,lS])
  refine tV 16 6 ?_
  (try simp only [Act.put,lA,lZ,lS])
  refine wpAnyH_done (by kernel_rfl) ?_ _
  have hbel3:=hb1.drew.trans (hb3.mono hb1.drew.size)
  go_wp2
  go_ret
  exact⟨ret_bool (by rw [HD.out];rfl),hbel3⟩
 ·have hlv6:lv<6:=by
   unfold leO okL at hle
   simp only [Bool.and_eq_true,decide_eq_true_eq] at hle
   omega
  have hli:(lv:Int)<6:=by omega
  rw [hle] at HQ1 HD
  have g0:=HA1.out.gone lv hlv6
  clear hle
  go_enter Try.func85,Try.ntmps85
  go_wp2_with fail
  refine wp_region_held_drew (S:=(fun w'=>((partIs w' g q 37∧partAt w' g q 37=ordC n f)∧w'.cell? ⟨w.heap.size,1,none⟩=some (.int .i64 o))∧w'.cell? ⟨w.heap.size,2+lv*3,none⟩=some (.bool (G lv)))) (by kernel_rfl) ?_ (fun hHeld=>?_)
  ·exact⟨⟨⟨i0,a0⟩,o0⟩,g0⟩
  refine tV 0 7 ?_
  (try simp only [Act.put,lA,lZ,lS])
  refine tV 1 8 ?_
  (try simp only [Act.put,lA,lZ,lS])
  refine tV 2 9 ?_
  (try simp only [Act.put,lA,lZ,lS])
  refine tW 3 10 (.agg (ordC n f)) ?_ ?_
  ·(intro o ho w hSw;obtain rfl:=Option.some.inj ho;clear ho;exact exec_load_ord rfl rfl hSw.1.1.1 hSw.1.1.2)
  (try simp only [Act.put,lA,lZ,lS])
  refine tV 4 11 ?_
  (try simp only [Act.put,lA,lZ,lS])
  refine tV 5 12 ?_
  (try simp only [Act.put,lA,lZ,lS])
  refine tV 6 13 ?_
  (try simp only [Act.put,lA,lZ,lS])
  refine wpAnyH_ready (rs:=[7]) (by kernel_rfl) (by simp) ?_
  refine AllReadyH.cons rfl (fun K hK=>?_) AllReadyH.nil
  go_simp
  go_wp2_with (go_at_call 66;refine (HQ1.out).mono ?_;rintro e w3 ⟨rfl,hb3⟩;have HR3:=hide (HR1.out.below hb3 hlt1);have i3:=HR3.out.is;have a3:=HR3.out.at;have o3:=(hb3.cell (p:=⟨w.heap.size,1,none⟩) hw1).trans o0;have g3:=(hb3.cell (p:=⟨w.heap.size,2+lv*3,none⟩) hw1).trans g0)
  refine hK.out _ _ ?_ (fun hHeld=>?_)
  ·exact⟨⟨⟨i3,a3⟩,o3⟩,g3⟩
  clear hK K
  refine tV 8 15 ?_
  (try simp only [Act.put,lA,lZ,lS])
  refine tV 9 16 ?_
  (try simp only [Act.put,lA,lZ,lS])
  refine tV 10 17 ?_
  (try simp only [Act.put,lA,lZ,lS])
  refine tV 11 18 ?_
  (try simp only [Act.put,lA,lZ,lS])
  refine tV 12 19 ?_
  (try simp only [Act.put,lA,lZ,lS])
  refine tV 13 20 ?_
  (try simp only [Act.put,lA,lZ,lS])
  refine tV 14 21 ?_
  (try simp only [Act.put,lA,lZ,lS])
  refine tV 15 22 ?_
  (try simp only [Act.put,lA,lZ,lS])
  refine tV 16 6 ?_
  (try simp only [Act.put,lA,lZ,lS])
  refine wpAnyH_done (by kernel_rfl) ?_ _
  have hbel3:=hb1.drew.trans (hb3.mono hb1.drew.size)
  go_wp2
  go_ret
  exact⟨ret_bool (by rw [HD.out];simp),hbel3⟩
end Go.Proofs.Ytgigkiocdiffjab
