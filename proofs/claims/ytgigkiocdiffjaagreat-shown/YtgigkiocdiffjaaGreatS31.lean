import Derived.Test.YtgigkiocdiffjaaGreatS26
import Derived.Test.YtgigkiocdiffjaaGreatS18
import Derived.Test.YtgigkiocdiffjaaGreatS28
set_option maxRecDepth 100000
set_option maxHeartbeats 16000000
namespace Go.Proofs.YtgigkiocdiffjaaGreat
open Go.RowKit Veil
@[go_sem] def wpPlain4 (P:Program) (o:Oper) (a:Act) (w:World) (K:Act→World→Prop) (Q:Exit→Act→World→Prop):Prop:=o.upon P a K Q ((execOp a.eval o).run P w)
abbrev PartLaw2 (P:Program) (N:TypeId→Nat):Prop:=∀ (o:Oper) (a:Act) (w:World) (K:Act→World→Prop) (Q:Exit→Act→World→Prop),
  wpPlain3 P o a w K Q=@ite _ (N (loadTy o)≠0∧ptrPart w (a.eval (opFst o)) (N (loadTy o))) (Classical.propDecidable _) (K (a.put o.dst (.agg (partAt w (blkOf (a.eval (opFst o))) (offOf (a.eval (opFst o))) (N (loadTy o))))) w)
   (@ite _ (N (storeTy o)≠0∧ptrPart w (a.eval (opFst o)) (N (storeTy o))∧isAggV (a.eval (opSnd o)) (N (storeTy o))) (Classical.propDecidable _) (K (a.put o.dst undef) (w.setCells (blkOf (a.eval (opFst o))) (offOf (a.eval (opFst o))) (aggOf (a.eval (opSnd o))).toList)) (wpPlain4 P o a w K Q))
theorem part_law2 {P:Program} {N:TypeId→Nat} (hN:RowsOk P N):PartLaw2 P N:=fun o a w K Q=>part_law hN o a w K Q
theorem Tryz.sizePRow:(Tryz.prog.info? 110).map (·.size)=some 38:=by kernel_rfl
theorem Tryz.sizeSixb:(Tryz.prog.info? 103).map (·.size)=some 36:=by kernel_rfl
theorem Tryz.sizePDoc:(Tryz.prog.info? 119).map (·.size)=some 173:=by kernel_rfl
theorem Tryz.sizePNews:(Tryz.prog.info? 117).map (·.size)=some 49:=by kernel_rfl
@[go_sem] def rowN4 (t:TypeId):Nat:=if t=110 then 38 else if t=103 then 36 else if t=119 then 173 else if t=117 then 49 else 0
theorem rowN4_ok:RowsOk Tryz.prog rowN4:=by
 refine⟨rfl,fun ty h=>?_⟩
 unfold rowN4 at *
 split at h
 ·subst_vars;exact⟨_,Tryz.underlying110,rfl,Tryz.sizePRow⟩
 ·split at h
  ·subst_vars;exact⟨_,Tryz.underlying103,rfl,Tryz.sizeSixb⟩
  ·split at h
   ·subst_vars;exact⟨_,Tryz.underlying119,rfl,Tryz.sizePDoc⟩
   ·split at h
    ·subst_vars;exact⟨_,Tryz.underlying117,rfl,Tryz.sizePNews⟩
    ·exact absurd rfl h
@[go_sem ↓] theorem parts_doc:PartLaw2 Tryz.prog rowN4:=part_law2 rowN4_ok
def rowZ (L:Int) (f:Nat→Nat→Bool):Array Value:=((ordC L f).toList++[Value.slice none 0 0]).toArray
theorem rowZ_size (L:Int) (f:Nat→Nat→Bool):(rowZ L f).size=38:=by simp [rowZ,ordC_size]
theorem rowZ_ok (L:Int) (f:Nat→Nat→Bool):okRow (rowZ L f) 38:=by
 refine⟨rowZ_size L f,?_⟩
 have:=ordC_one L f
 simp only [rowZ,List.all_toArray,List.all_append,Array.all_toList,this]
 rfl
def newsZ (L:Int) (f:Nat→Nat→Bool):Array Value:=((ordC L f).toList++(List.replicate 6 (Value.int .i64 0)++List.replicate 6 (Value.slice none 0 0))).toArray
theorem newsZ_size (L:Int) (f:Nat→Nat→Bool):(newsZ L f).size=49:=by simp [newsZ,ordC_size]
theorem newsZ_ok (L:Int) (f:Nat→Nat→Bool):okRow (newsZ L f) 49:=by
 refine⟨newsZ_size L f,?_⟩
 have:=ordC_one L f
 simp only [newsZ,List.all_toArray,List.all_append,Array.all_toList,this,List.all_replicate]
 rfl
def docY (L:Int) (f:Nat→Nat→Bool):Array Value:=((ordC L f).toList++(Value.slice none 0 0 :: (List.replicate 36 (Value.bool false)++((ordC 0 noF).toList++(Value.slice none 0 0 :: (List.replicate 6 (Value.int .i64 0)++(List.replicate 6 (Value.slice none 0 0)++((ordC 0 noF).toList++(List.replicate 6 (Value.int .i64 0)++List.replicate 6 (Value.slice none 0 0)))))))))).toArray
theorem docY_size (L:Int) (f:Nat→Nat→Bool):(docY L f).size=173:=by simp [docY,ordC_size]
theorem docY_ok (L:Int) (f:Nat→Nat→Bool):okRow (docY L f) 173:=by
 refine⟨docY_size L f,?_⟩
 have h1:=ordC_one L f
 have h2:=ordC_one 0 noF
 simp only [docY,List.all_toArray,List.all_append,List.all_cons,Array.all_toList,h1,h2,List.all_replicate]
 rfl
def docZ (L:Int) (f:Nat→Nat→Bool):Array Value:=((ordC L f).toList++(Value.slice none 0 0 :: (List.replicate 36 (Value.bool false)++((ordC L f).toList++(Value.slice none 0 0 :: (List.replicate 6 (Value.int .i64 0)++(List.replicate 6 (Value.slice none 0 0)++((ordC L f).toList++(List.replicate 6 (Value.int .i64 0)++List.replicate 6 (Value.slice none 0 0)))))))))).toArray
theorem docZ_size (L:Int) (f:Nat→Nat→Bool):(docZ L f).size=173:=by simp [docZ,ordC_size]
theorem doc_laid (L:Int) (f:Nat→Nat→Bool):putCells (putCells (docY L f) 74 (rowZ L f).toList) 124 (newsZ L f).toList=docZ L f:=by kernel_rfl
theorem built_row (L:Int) (f:Nat→Nat→Bool):(Tryz.prog.built 110 [(0,.agg (ordC L f))]).getD #[]=rowZ L f:=by kernel_rfl
theorem built_row' (L:Int) (f:Nat→Nat→Bool):(Tryz.prog.built 110 [(0,.agg (ordC L f))]).isSome=true:=by kernel_rfl
theorem built_doc (L:Int) (f:Nat→Nat→Bool):(Tryz.prog.built 119 [(0,.agg (ordC L f))]).getD #[]=docY L f:=by kernel_rfl
theorem built_doc' (L:Int) (f:Nat→Nat→Bool):(Tryz.prog.built 119 [(0,.agg (ordC L f))]).isSome=true:=by kernel_rfl
theorem built_news (L:Int) (f:Nat→Nat→Bool):(Tryz.prog.built 117 [(0,.agg (ordC L f))]).getD #[]=newsZ L f:=by kernel_rfl
theorem built_news' (L:Int) (f:Nat→Nat→Bool):(Tryz.prog.built 117 [(0,.agg (ordC L f))]).isSome=true:=by kernel_rfl
theorem zero_news:(Tryz.prog.info? 117).map (fun i=>(i.zero,i.size))=some (some (.agg (newsZ 0 noF)),49):=by kernel_rfl
theorem zero_row:(Tryz.prog.info? 110).map (fun i=>(i.zero,i.size))=some (some (.agg (rowZ 0 noF)),38):=by kernel_rfl
theorem zero_doc:(Tryz.prog.info? 119).map (fun i=>(i.zero,i.size))=some (some (.agg (docY 0 noF)),173):=by kernel_rfl
theorem zero_sixb:(Tryz.prog.info? 103).map (fun i=>(i.zero,i.size))=some (some (.agg ((List.range 36).map fun i=>Value.bool (noF (i / 6) (i % 6))).toArray),36):=by kernel_rfl
theorem run_alloc_agg {P:Program} {w:World} {t:TypeId} {cs:Array Value} {n:Nat} (h:(P.info? t).map (fun i=>(i.zero,i.size))=some (some (.agg cs),n)):(Instr.alloc t true (.tuple #[])).run P w=.ok (.pointer (some ⟨w.heap.size,0,none⟩)) (w.alloc (.cells cs t)):=by
 obtain⟨i,hi,hz⟩:=Option.map_eq_some_iff.1 h
 simp only [Prod.mk.injEq] at hz
 simp [Instr.alloc,zeroValue,typeInfo,hi,hz.1,newVar,Value.cells,newRow]
theorem wp_alloc_agg {P:Program} {o:Oper} {a:Act} {w:World} {K:Act→World→Prop} {Q:Exit→Act→World→Prop} {t:TypeId} {cs:Array Value} {n:Nat} (ho:o.op=.alloc t) (h:(P.info? t).map (fun i=>(i.zero,i.size))=some (some (.agg cs),n))
  (hk:K (a.put o.dst (.pointer (some ⟨w.heap.size,0,none⟩))) (w.alloc (.cells cs t))):o.wp P a w K Q:=by
 unfold Oper.wp execOp
 simp only [ho,Sem.run_bind,run_alloc_agg h,Result.andThen_ok,Sem.run_pure]
 exact hk
theorem wpList_alloc_agg {P:Program} {ops:Array Oper} {rest:List Oper} {o:Oper} {a:Act} {w:World} {Q:Exit→Act→World→Prop} {t:TypeId} {cs:Array Value} {n:Nat} (hgd:o.guard=none) (ho:o.op=.alloc t) (h:(P.info? t).map (fun i=>(i.zero,i.size))=some (some (.agg cs),n))
  (hk:wpList P ops Q rest (a.put o.dst (.pointer (some ⟨w.heap.size,0,none⟩))) (w.alloc (.cells cs t))):wpList P ops Q (o :: rest) a w:=
 wpList_plain hgd fun _ hK=>wp_alloc_agg ho h (hK _ _ hk)
theorem whole_at {w:World} {g n:Nat} {cs:Array Value} {t:TypeId} (h:w.heap[g]?=some (.cells cs t (0,0))) (hn:cs.size=n):partIs w g 0 n∧partAt w g 0 n=cs:=by
 refine⟨⟨cs,t,h,by omega⟩,?_⟩
 unfold partAt
 rw [rowAt_mk h,Nat.zero_add,← hn,Array.extract_size]
theorem whole_store {w:World} {g n:Nat} {old:Array Value} {t:TypeId} (h:w.heap[g]?=some (.cells old t (0,0))) (hn:old.size=n) (cs:Array Value) (hc:cs.size=n):(w.setCells g 0 cs.toList).heap[g]?=some (.cells cs t (0,0)):=by
 rw [heap_setCells_same g t cs.toList 0 w old h,putCells_whole _ _ (by simp;omega)]
theorem wpList_build_row {w:World} {ops:Array Oper} {rest:List Oper} {o:Oper} {a:Act} {Q:Exit→Act→World→Prop} (hgd:o.guard=none) (x:Operand) (L:Int) (f:Nat→Nat→Bool) (ho:o.op=.build 110 #[(0,x)]) (hx:a.eval x=.agg (ordC L f))
  (h:wpList Tryz.prog ops Q rest (a.put o.dst (.agg (rowZ L f))) w):wpList Tryz.prog ops Q (o :: rest) a w:=by
 refine wpList_build hgd 110 #[(0,x)] ho (by simp only [List.map_toArray,List.map_cons,List.map_nil,hx];exact built_row' L f) ?_
 simp only [List.map_toArray,List.map_cons,List.map_nil,hx]
 rw [built_row L f]
 exact h
theorem wpList_build_news {w:World} {ops:Array Oper} {rest:List Oper} {o:Oper} {a:Act} {Q:Exit→Act→World→Prop} (hgd:o.guard=none) (x:Operand) (L:Int) (f:Nat→Nat→Bool) (ho:o.op=.build 117 #[(0,x)]) (hx:a.eval x=.agg (ordC L f))
  (h:wpList Tryz.prog ops Q rest (a.put o.dst (.agg (newsZ L f))) w):wpList Tryz.prog ops Q (o :: rest) a w:=by
 refine wpList_build hgd 117 #[(0,x)] ho (by simp only [List.map_toArray,List.map_cons,List.map_nil,hx];exact built_news' L f) ?_
 simp only [List.map_toArray,List.map_cons,List.map_nil,hx]
 rw [built_news L f]
 exact h
theorem wpList_build_doc {w:World} {ops:Array Oper} {rest:List Oper} {o:Oper} {a:Act} {Q:Exit→Act→World→Prop} (hgd:o.guard=none) (x:Operand) (L:Int) (f:Nat→Nat→Bool) (ho:o.op=.build 119 #[(0,x)]) (hx:a.eval x=.agg (ordC L f))
  (h:wpList Tryz.prog ops Q rest (a.put o.dst (.agg (docY L f))) w):wpList Tryz.prog ops Q (o :: rest) a w:=by
 refine wpList_build hgd 119 #[(0,x)] ho (by simp only [List.map_toArray,List.map_cons,List.map_nil,hx];exact built_doc' L f) ?_
 simp only [List.map_toArray,List.map_cons,List.map_nil,hx]
 rw [built_doc L f]
 exact h
theorem rwNew_any (L:Int) (f:Nat→Nat→Bool) (w:World):Calls Tryz.prog 48 #[.agg (ordC L f)] w fun e w'=>e=.returned (.agg (rowZ L f))∧Below w.heap.size w w':=by
 have HO:=hide (ord_new w L f)
 have i0:=(ord_new w L f).is
 have a0:=(ord_new w L f).at
 have hb1:=below_box w (.cells (ordC L f) 105)
 have HN:=hide (Go.heap_alloc_new (w.alloc (.cells (ordC L f) 105)) (.cells (rowZ 0 noF) 110))
 have hs1:(w.alloc (.cells (ordC L f) 105)).heap.size=w.heap.size+1:=by simp
 rw [hs1] at HN
 have i1:rowIs ((w.alloc (.cells (ordC L f) 105)).alloc (.cells (rowZ 0 noF) 110)) w.heap.size 37:=⟨_,_,row_alloc' HO.out,ordC_size L f⟩
 have a1:rowAt ((w.alloc (.cells (ordC L f) 105)).alloc (.cells (rowZ 0 noF) 110)) w.heap.size=ordC L f:=rowAt_mk (row_alloc' HO.out)
 obtain⟨i2,_⟩:=whole_at HN.out (rowZ_size 0 noF)
 have k2:=rowZ_ok L f
 have HS:=hide (whole_store HN.out (rowZ_size 0 noF) (rowZ L f) (rowZ_size L f))
 have hbS:=below_setCells (hb1.alloc hb1.size (.cells (rowZ 0 noF) 110)) (show w.heap.size≤w.heap.size+1 by omega) 0 (rowZ L f).toList
 clear hs1 hb1
 go_enter Tryz.func48,Tryz.ntmps48
 go_wp2_with (first|(refine wpList_alloc_agg rfl rfl zero_row ?_)|(refine wpList_build_row rfl (.tmp 3) L f rfl rfl ?_))
 exact bodyPost_ret (results_cell_row Tryz.results48 _ _ (w.heap.size+1) 110 (rowZ L f) (0,0) _ (by simp) HS.out Tryz.underlying110 rfl (by rw [Tryz.sizePRow,rowZ_size])) rfl ⟨rfl,hbS⟩
theorem nwNew_any (L:Int) (f:Nat→Nat→Bool) (w:World):Calls Tryz.prog 49 #[.agg (ordC L f)] w fun e w'=>e=.returned (.agg (newsZ L f))∧Below w.heap.size w w':=by
 have HO:=hide (ord_new w L f)
 have i0:=(ord_new w L f).is
 have a0:=(ord_new w L f).at
 have hb1:=below_box w (.cells (ordC L f) 105)
 have HN:=hide (Go.heap_alloc_new (w.alloc (.cells (ordC L f) 105)) (.cells (newsZ 0 noF) 117))
 have hs1:(w.alloc (.cells (ordC L f) 105)).heap.size=w.heap.size+1:=by simp
 rw [hs1] at HN
 have i1:rowIs ((w.alloc (.cells (ordC L f) 105)).alloc (.cells (newsZ 0 noF) 117)) w.heap.size 37:=⟨_,_,row_alloc' HO.out,ordC_size L f⟩
 have a1:rowAt ((w.alloc (.cells (ordC L f) 105)).alloc (.cells (newsZ 0 noF) 117)) w.heap.size=ordC L f:=rowAt_mk (row_alloc' HO.out)
 obtain⟨i2,_⟩:=whole_at HN.out (newsZ_size 0 noF)
 have k2:=newsZ_ok L f
 have HS:=hide (whole_store HN.out (newsZ_size 0 noF) (newsZ L f) (newsZ_size L f))
 have hbS:=below_setCells (hb1.alloc hb1.size (.cells (newsZ 0 noF) 117)) (show w.heap.size≤w.heap.size+1 by omega) 0 (newsZ L f).toList
 clear hs1 hb1
 go_enter Tryz.func49,Tryz.ntmps49
 go_wp2_with (first|(refine wpList_alloc_agg rfl rfl zero_news ?_)|(refine wpList_build_news rfl (.tmp 3) L f rfl rfl ?_))
 exact bodyPost_ret (results_cell_row Tryz.results49 _ _ (w.heap.size+1) 117 (newsZ L f) (0,0) _ (by simp) HS.out Tryz.underlying117 rfl (by rw [Tryz.sizePNews,newsZ_size])) rfl ⟨rfl,hbS⟩
theorem textF_bt (s:ByteArray):textF (bt s) 0 s.size=s:=by
 apply ByteArray.ext
 apply Array.toList_inj.1
 simp only [textF]
 apply List.ext_getElem?
 intro j
 by_cases hj:j<s.size
 ·rw [List.getElem?_map,List.getElem?_range' (by omega)]
  have h1:s.data.toList[j]?=some s[j]:=by
   have:=List.getElem?_eq_getElem (l:=bytes s) (i:=j) (by rw [bytes_length];exact hj)
   rw [bytes_get s j hj] at this
   exact this
  rw [h1]
  simp only [Option.map_some,Nat.zero_add,Nat.one_mul,Option.some.injEq]
  rw [bt_get s j hj]
  simp
 ·have h1:s.data.toList.length=s.size:=by simp
  rw [List.getElem?_eq_none (by simp;omega),List.getElem?_eq_none (by omega)]
theorem bt_lt (s:ByteArray) (j:Nat):bt s j<256:=UInt8.toNat_lt _
theorem Tryz.infoRule3:(Tryz.prog.info? 163).map (fun i=>(i.zero,i.size,i.bytes))=some (some (.agg #[.string ⟨#[]⟩,.int .i64 0]),2,24):=by kernel_rfl
theorem dcCopyOf_any (R:List (ByteArray × Int)) (ra:Option Addr) (rc:Nat) (w:World) (hat:SeqAt xR yR w ra R) (h8:R.length≤8) :
  Calls Tryz.prog 50 #[.slice ra R.length rc] w fun e w'=>∃ vl,e=.returned vl∧OwnL 163 2 ruleV w' w.heap.size vl R∧Below w.heap.size w w':=by
 have HE:=hide hat
 clear hat
 go_enter Tryz.func50,Tryz.ntmps50
 go_wp2
 go_loopw [3,9] (fun vl i wr=>∃ k:Nat,k≤R.length∧i=.int .i64 k∧OwnL 163 2 ruleV wr w.heap.size vl (R.take k)∧Below w.heap.size w wr) (fun _ i _=>R.length-(intOf i).toNat)
 case atStart=>exact⟨0,Nat.zero_le _,rfl,OwnL.nil _ _ _ _ _,Below.refl _ _⟩
 case round=>
  obtain⟨wo,rfl⟩:∃ x,x=wr:=⟨_,rfl⟩
  obtain⟨k,hk,rfl,hvl,hbel⟩:=hrel
  have HVL:=hide hvl
  clear hvl
  by_cases hlt:k<R.length
  ·have hki:(k:Int)<(R.length:Int):=by omega
   have hek:R[k]?=some R[k]:=List.getElem?_eq_getElem hlt
   obtain⟨b,off,hao,hbl,d1,d2⟩:=HE.out.at hbel hek
   have HTS:=hide (show R.take (k+1)=R.take k++[R[k]] by rw [List.take_add_one,hek];rfl)
   have hidx:∀ w',(Instr.indexAt 28 (.slice ra R.length rc) (.int .i64 (k:Int))).run Tryz.prog w'=.ok (.pointer (some ⟨b,off+k*2,none⟩)) w':=by
    intro w'
    have hji:(k:Int)<(R.length:Int):=by omega
    rw [hao]
    go_simp
   have htl:(R.take k).length=k:=by rw [List.length_take];omega
   generalize R[k]=r at *
   obtain⟨s,lb⟩:=r
   simp only [xR,yR] at d1 d2
   have hbB:Below wo.heap.size wo (wo.alloc (.cells #[.string s,.int .i64 lb] 163)):=below_box _ _
   have hbelB:=hbel.trans (hbB.mono hbel.size)
   have HNB:=hide (Go.heap_alloc_new wo (.cells #[.string s,.int .i64 lb] 163))
   have s0:(wo.alloc (.cells #[.string s,.int .i64 lb] 163)).cell? ⟨wo.heap.size,0,none⟩=some (.string s):=by rw [cell_of_row _ _ _ _ _ _ HNB.out];rfl
   obtain⟨mc,w1,hcv,hba,hb1⟩:=bytes_made (wo.alloc (.cells #[.string s,.int .i64 lb] 163)) (bt s) s.size (fun j _=>bt_lt s j)
   have hcb:=conv_at (cap:=mc) hba (fun j _=>bt_lt s j)
   rw [textF_bt] at hcv hcb
   rw [show (wo.alloc (.cells #[.string s,.int .i64 lb] 163)).heap.size=wo.heap.size+1 by simp] at hcb
   have hw0:wo.heap.size<(wo.alloc (.cells #[.string s,.int .i64 lb] 163)).heap.size:=by simp
   have s1:w1.cell? ⟨wo.heap.size,1,none⟩=some (.int .i64 lb):=by
    rw [cell_of_row _ _ _ _ _ _ (Below.row hb1 HNB.out hw0)];rfl
   have hbel1:=hbelB.trans (hb1.mono hbelB.size)
   have hbC:Below w1.heap.size w1 (w1.alloc (.cells #[.string s,.int .i64 lb] 163)):=below_box _ _
   have hbelC:=hbel1.trans (hbC.mono hbel1.size)
   have HVC:=hide (((HVL.out.below hbB).below hb1).below hbC)
   have HNC:=hide (Go.heap_alloc_new w1 (.cells #[.string s,.int .i64 lb] 163))
   clear hek hao
   go_wp2_with (at_builtin;refine wpList_push rfl (.tmp 16) (.tmp 22) 28 rfl (.agg #[.string ⟨#[]⟩,.int .i64 0]) 24 Tryz.underlying28 Tryz.infoRule3 rfl (by decide) rfl HVC.out w1.heap.size 1 (s,lb) rfl 163 (0,0) HNC.out rfl (by intro u hu;simp [ruleV] at hu;rcases hu with rfl|rfl <;> rfl) (by omega) (by decide) hbelC.size (w1.heap.size+1) (by simp) ?_;intro g6 cap6 w6 hown6 hgrow6 hat6 hlt6)
   have hb6:=hbelC.trans (below_of_grown hgrow6 (fun b hb=>(HVC.out.lt hb).1) hbelC.size)
   go_roundw
   case rel=>exact⟨k+1,by omega,by go_num,by rw [HTS.out];simpa [htl] using hown6,hb6⟩
   case measure=>simp [intOf];omega
  ·obtain rfl:k=R.length:=by omega
   have hkc:decide ((R.length:Int)<(R.length:Int))=false:=by simp
   have HT:=hide (show R.take R.length=R from List.take_length)
   go_wp2
   go_ret
   exact⟨_,rfl,by have:=HVL.out;rwa [HT.out] at this,hbel⟩
def tabC (f:Nat→Nat→Bool):Array Value:=((List.range 36).map fun i=>Value.bool (f (i / 6) (i % 6))).toArray
theorem tabC_size (f:Nat→Nat→Bool):(tabC f).size=36:=by simp [tabC]
theorem tabC_get (f:Nat→Nat→Bool) (a b:Nat) (ha:a<6) (hb:b<6):(tabC f)[a*6+b]?=some (.bool (f a b)):=by
 have h1:(a*6+b) / 6=a:=by omega
 have h2:(a*6+b) % 6=b:=by omega
 have hlt:a*6+b<36:=by omega
 simp [tabC,h1,h2,hlt]
theorem tabC_set (f g:Nat→Nat→Bool) (a b:Nat) (x:Bool) (ha:a<6) (hb:b<6) (hg:∀ i j,i<6→j<6→g i j=if i=a∧j=b then x else f i j):(tabC f).setIfInBounds (a*6+b) (.bool x)=tabC g:=by
 apply Array.ext_getElem?
 intro i
 rw [Array.getElem?_setIfInBounds]
 by_cases hi:i<36
 ·have e:i=(i / 6)*6+i % 6:=by omega
  have r1:(tabC g)[i]?=some (.bool (g (i / 6) (i % 6))):=by
   have:=tabC_get g (i / 6) (i % 6) (by omega) (by omega)
   rwa [← e] at this
  have r2:(tabC f)[i]?=some (.bool (f (i / 6) (i % 6))):=by
   have:=tabC_get f (i / 6) (i % 6) (by omega) (by omega)
   rwa [← e] at this
  rw [r1,r2,tabC_size,hg _ _ (by omega) (by omega)]
  by_cases h:i / 6=a∧i % 6=b
  ·rw [if_pos (by omega),if_pos (by omega),if_pos h]
  ·rw [if_neg (by omega),if_neg h]
 ·rw [if_neg (by omega),Array.getElem?_eq_none (by rw [tabC_size];omega),Array.getElem?_eq_none (by rw [tabC_size];omega)]
theorem tabC_ok (f:Nat→Nat→Bool):okRow (tabC f) 36:=⟨tabC_size f,by simp [tabC,Value.oneCell']⟩
theorem zero_sixb':(Tryz.prog.info? 103).map (fun i=>(i.zero,i.size))=some (some (.agg (tabC noF)),36):=zero_sixb
def grTo (G:List (Int × Int)) (k a b:Nat):Bool:=(G.take k).any (grantIs a b)
theorem grTo_succ {G:List (Int × Int)} {k:Nat} {p:Int × Int} (h:G[k]?=some p) (a b:Nat):grTo G (k+1) a b=(grTo G k a b || grantIs a b p):=by
 unfold grTo;rw [any_snoc _ G k p h]
end Go.Proofs.YtgigkiocdiffjaaGreat
namespace Go.Proofs.YtgigkiocdiffjaaGreat
open Go.RowKit Veil
theorem dcGranted_any (G:List (Int × Int)) (ga:Option Addr) (gc n:Nat) (f:Nat→Nat→Bool) (w:World) (hat:SeqAt xE yE w ga G) (h30:G.length≤30) (hn:n≤6) (hG:∀ p,p ∈ G→okL n p.1=true∧okL n p.2=true) :
  Calls Tryz.prog 51 #[.slice ga G.length gc,.agg (ordC n f)] w fun e w'=>e=.returned (.agg (tabC (grTo G G.length)))∧Below w.heap.size w w':=by
 have HE:=hide hat
 have HGO:=hide hG
 have HHAS:=hide (fun (a:Int) (w':World)=>has_any n f a w')
 have HO0:=hide (ord_new w n f)
 have hb1:=below_box w (.cells (ordC n f) 105)
 have hs1:(w.alloc (.cells (ordC n f) 105)).heap.size=w.heap.size+1:=by simp
 have hb2:Below w.heap.size w ((w.alloc (.cells (ordC n f) 105)).alloc (.cells (tabC noF) 103)):=hb1.alloc hb1.size _
 have hs2:((w.alloc (.cells (ordC n f) 105)).alloc (.cells (tabC noF) 103)).heap.size=w.heap.size+2:=by simp
 have HT1:Hid (((w.alloc (.cells (ordC n f) 105)).alloc (.cells (tabC noF) 103)).heap[w.heap.size+1]?=some (.cells (tabC noF) 103 (0,0))):=by have:=Go.heap_alloc_new (w.alloc (.cells (ordC n f) 105)) (.cells (tabC noF) 103);rwa [hs1] at this
 have hb3:Below w.heap.size w (((w.alloc (.cells (ordC n f) 105)).alloc (.cells (tabC noF) 103)).alloc (.cells (tabC noF) 103)):=hb2.alloc hb2.size _
 have HT2:Hid ((((w.alloc (.cells (ordC n f) 105)).alloc (.cells (tabC noF) 103)).alloc (.cells (tabC noF) 103)).heap[w.heap.size+2]?=some (.cells (tabC noF) 103 (0,0))):=by have:=Go.heap_alloc_new ((w.alloc (.cells (ordC n f) 105)).alloc (.cells (tabC noF) 103)) (.cells (tabC noF) 103);rwa [hs2] at this
 have HO2:Hid (OrdAt (((w.alloc (.cells (ordC n f) 105)).alloc (.cells (tabC noF) 103)).alloc (.cells (tabC noF) 103)) w.heap.size n f):=row_alloc' (row_alloc' HO0.out)
 have HT3:=hide (row_alloc' (o':=.cells (tabC noF) 103) HT1.out)
 have HZ:=hide (show tabC noF=tabC (grTo G 0) from rfl)
 clear hat hG hb1 hs1 hb2 hs2
 go_enter Tryz.func51,Tryz.ntmps51
 go_wp2_with (first|(refine wpList_alloc_agg rfl rfl zero_sixb' ?_))
 go_loopw [10] (fun i wr=>∃ k:Nat,k≤G.length∧i=.int .i64 k∧wr.heap[w.heap.size+2]?=some (.cells (tabC (grTo G k)) 103 (0,0))∧wr.heap[w.heap.size+1]?=some (.cells (tabC noF) 103 (0,0))∧OrdAt wr w.heap.size n f∧Below w.heap.size w wr) (fun i _=>G.length-(intOf i).toNat)
 case atStart=>exact⟨0,Nat.zero_le _,rfl,by rw [← HZ.out];exact HT2.out,HT3.out,HO2.out,hb3⟩
 case round=>
  clear HT1 HT2 HT3 HO2 hb3 HO0 HZ
  obtain⟨wo,rfl⟩:∃ x,x=wr:=⟨_,rfl⟩
  obtain⟨k,hk,rfl,ht2,ht1,hord,hbel⟩:=hrel
  have H2:=hide ht2
  have H1:=hide ht1
  have H0:=hide hord
  have l2:=lt_of_row ht2
  clear ht2 ht1 hord
  by_cases hlt:k<G.length
  ·have hki:(k:Int)<(G.length:Int):=by omega
   have hek:G[k]?=some G[k]:=List.getElem?_eq_getElem hlt
   obtain⟨b,off,hao,hbl,d1,d2⟩:=HE.out.at hbel hek
   have HTS:=hide (fun a b=>grTo_succ hek a b)
   have hidx:∀ w',(Instr.indexAt 29 (.slice ga G.length gc) (.int .i64 (k:Int))).run Tryz.prog w'=.ok (.pointer (some ⟨b,off+k*2,none⟩)) w':=by
    intro w'
    have hji:(k:Int)<(G.length:Int):=by omega
    rw [hao]
    go_simp
   obtain⟨ho1,ho2⟩:=HGO.out _ (List.getElem_mem hlt)
   generalize G[k]=p at *
   obtain⟨p1,p2⟩:=p
   simp only [xE,yE] at d1 d2
   simp only at ho1 ho2
   obtain⟨x,rfl,hx⟩:=okL_cast ho1
   obtain⟨y,rfl,hy⟩:=okL_cast ho2
   have hxi:(x:Int)<6:=by omega
   have hyi:(y:Int)<6:=by omega
   have hbB:Below wo.heap.size wo (wo.alloc (.cells #[.int .i64 x,.int .i64 y] 166)):=below_box _ _
   have hbelB:=hbel.trans (hbB.mono hbel.size)
   have HNB:=hide (Go.heap_alloc_new wo (.cells #[.int .i64 x,.int .i64 y] 166))
   have HOB:=hide (H0.out.below hbB H0.out.lt)
   have i0:=HOB.out.is
   have a0:=HOB.out.at
   have HA1:=hide (HHAS.out x (wo.alloc (.cells #[.int .i64 x,.int .i64 y] 166)))
   rw [ho1] at HA1
   have hsB:wo.heap.size<(wo.alloc (.cells #[.int .i64 x,.int .i64 y] 166)).heap.size:=by simp
   clear hek hao
   go_wp2_with fail
   refine (HA1.out).mono ?_
   rintro e w1 ⟨rfl,hb1⟩
   have HN1:=hide (Below.row hb1 HNB.out hsB)
   have HO1:=hide (HOB.out.below hb1 HOB.out.lt)
   have i1:=HO1.out.is
   have a1:=HO1.out.at
   have HA2:=hide (HHAS.out y w1)
   rw [ho2] at HA2
   have n1:w1.cell? ⟨wo.heap.size,1,none⟩=some (.int .i64 y):=by rw [cell_of_row _ _ _ _ _ _ HN1.out];rfl
   clear i0 a0
   go_wp2_with fail
   refine (HA2.out).mono ?_
   rintro e w2 ⟨rfl,hb2⟩
   have hbw2:Below wo.heap.size wo w2:=(hbB.trans (hb1.mono hbB.size)).trans (hb2.mono (Nat.le_trans hbB.size hb1.size))
   have hbelW:=hbel.trans (hbw2.mono hbel.size)
   have HN2:=hide (Below.row hb2 HN1.out (lt_of_row HN1.out))
   have m0:w2.cell? ⟨wo.heap.size,0,none⟩=some (.int .i64 x):=by rw [cell_of_row _ _ _ _ _ _ HN2.out];rfl
   have m1:w2.cell? ⟨wo.heap.size,1,none⟩=some (.int .i64 y):=by rw [cell_of_row _ _ _ _ _ _ HN2.out];rfl
   have HT2:=hide (Below.row hbw2 H2.out l2)
   have HT1:=hide (Below.row hbw2 H1.out (lt_of_row H1.out))
   have HT0:=hide (H0.out.below hbw2 H0.out.lt)
   have t2:w2.cell? ⟨w.heap.size+2,x*6+y,none⟩=some (.bool (grTo G k x y)):=by rw [cell_of_row _ _ _ _ _ _ HT2.out,tabC_get _ _ _ (by omega) (by omega)]
   have f2:w2.frozen? ⟨w.heap.size+2,x*6+y,none⟩=false:=frozen_of_row _ _ _ _ _ HT2.out
   have HS2:Hid ((w2.drew.setCell ⟨w.heap.size+2,x*6+y,none⟩ (.bool true)).heap[w.heap.size+2]?=some (.cells (tabC (grTo G (k+1))) 103 (0,0))):=by
    have:=heap_setCell_same w2.drew (w.heap.size+2) (x*6+y) _ _ (.bool true) HT2.out
    rw [tabC_set (grTo G k) (grTo G (k+1)) x y true (by omega) (by omega) (fun i j _ _=>by
     rw [HTS.out i j]
     unfold grantIs
     by_cases hij:i=x∧j=y
     ·obtain⟨rfl,rfl⟩:=hij;simp
     ·rw [if_neg hij]
      have:(((x:Int) == (i:Int)) && ((y:Int) == (j:Int)))=false:=by
       rw [Bool.and_eq_false_iff]
       by_cases h1:i=x
       ·right;simp;omega
       ·left;simp;omega
      rw [this];simp)] at this
    exact this
   have HS1:=hide (row_other (w:=w2.drew) (v:=.bool true) (j:=x*6+y) HT1.out (show w.heap.size+1≠w.heap.size+2 by omega))
   have HS0:Hid (OrdAt (w2.drew.setCell ⟨w.heap.size+2,x*6+y,none⟩ (.bool true)) w.heap.size n f):=row_other (w:=w2.drew) HT0.out (by omega)
   have HSB:Hid (Below w.heap.size w (w2.drew.setCell ⟨w.heap.size+2,x*6+y,none⟩ (.bool true))):=hbelW.drew.setCell (by dsimp only;omega) _
   have u0:(w2.drew.setCell ⟨w.heap.size+2,x*6+y,none⟩ (.bool true)).cell? ⟨wo.heap.size,0,none⟩=some (.int .i64 x):=by rw [cell_of_row _ _ _ _ _ _ (row_other (w:=w2.drew) HN2.out (show wo.heap.size≠w.heap.size+2 by omega))];rfl
   have u1:(w2.drew.setCell ⟨w.heap.size+2,x*6+y,none⟩ (.bool true)).cell? ⟨wo.heap.size,1,none⟩=some (.int .i64 y):=by rw [cell_of_row _ _ _ _ _ _ (row_other (w:=w2.drew) HN2.out (show wo.heap.size≠w.heap.size+2 by omega))];rfl
   clear i1 a1 n1
   go_wp2_with fail
   refine wp_region_held_drew (S:=(fun w'=>w'.cell? ⟨wo.heap.size,0,none⟩=some (.int .i64 x)∧w'.cell? ⟨wo.heap.size,1,none⟩=some (.int .i64 y))) (by kernel_rfl) ?_ (fun hHeld=>?_)
   ·exact⟨m0,m1⟩
   refine tV 0 24 ?_
   (try simp only [Act.put,lA,lZ,lS])
   refine tV 1 25 ?_
   (try simp only [Act.put,lA,lZ,lS])
   refine tV 2 26 ?_
   (try simp only [Act.put,lA,lZ,lS])
   refine tV 3 27 ?_
   (try simp only [Act.put,lA,lZ,lS])
   refine tV 4 28 ?_
   (try simp only [Act.put,lA,lZ,lS])
   refine tV 5 29 ?_
   (try simp only [Act.put,lA,lZ,lS])
   refine wpAnyH_ready (rs:=[6]) (by kernel_rfl) (by simp) ?_
   refine AllReadyH.cons rfl (fun K hK=>?_) AllReadyH.nil
   go_simp
   refine hK.out _ _ ?_ (fun hHeld=>?_)
   ·exact⟨u0,u1⟩
   clear hK K
   refine wpAnyH_done (by kernel_rfl) ?_ _
   clear m0 m1 t2 f2 u0 u1
   go_wp2
   go_roundw
   case rel=>exact⟨k+1,by omega,by go_num,HS2.out,HS1.out,HS0.out,HSB.out⟩
   case measure=>simp [intOf];omega
  ·obtain rfl:k=G.length:=by omega
   have hkc:decide ((G.length:Int)<(G.length:Int))=false:=by simp
   obtain⟨i2,a2⟩:=whole_at H2.out (tabC_size _)
   obtain⟨i1,_⟩:=whole_at H1.out (tabC_size _)
   have k2:=tabC_ok (grTo G G.length)
   have HS:=hide (whole_store H1.out (tabC_size _) (tabC (grTo G G.length)) (tabC_size _))
   have hbS:=below_setCells hbel (show w.heap.size≤w.heap.size+1 by omega) 0 (tabC (grTo G G.length)).toList
   go_wp2
   exact bodyPost_ret (results_cell_row Tryz.results51 _ _ (w.heap.size+1) 103 (tabC (grTo G G.length)) (0,0) _ (by simp) HS.out Tryz.underlying103 rfl (by rw [Tryz.sizeSixb,tabC_size])) rfl ⟨rfl,hbS⟩
end Go.Proofs.YtgigkiocdiffjaaGreat
namespace Go.Proofs.YtgigkiocdiffjaaGreat
open Go.RowKit Veil
theorem extract_put {cs:Array Value} {vs:List Value} {o a b:Nat} (ho:o+vs.length≤cs.size) (h:b≤o∨o+vs.length≤a):(putCells cs o vs).extract a b=cs.extract a b:=by
 apply Array.ext_getElem?
 intro j
 rw [Array.getElem?_extract,Array.getElem?_extract,putCells_size,putCells_get _ _ _ _ ho]
 by_cases hj:j<min b cs.size-a
 ·rw [if_pos hj,if_pos hj,if_neg (by omega)]
 ·rw [if_neg hj,if_neg hj]
theorem docZ_ord (L:Int) (f:Nat→Nat→Bool):(docZ L f).extract 0 37=ordC L f:=by kernel_rfl
theorem docZ_rowo (L:Int) (f:Nat→Nat→Bool):(docZ L f).extract 74 111=ordC L f:=by kernel_rfl
theorem docZ_cells (L:Int) (f:Nat→Nat→Bool):(docZ L f)[111]?=some (.slice none 0 0):=by kernel_rfl
theorem docZ_ins (L:Int) (f:Nat→Nat→Bool) (i:Nat) (hi:i<6):(docZ L f)[112+i]?=some (.int .i64 0):=by
 obtain rfl|rfl|rfl|rfl|rfl|rfl:i=0∨i=1∨i=2∨i=3∨i=4∨i=5:=by omega
 all_goals kernel_rfl
theorem docZ_log (L:Int) (f:Nat→Nat→Bool) (i:Nat) (hi:i<6):(docZ L f)[118+i]?=some (.slice none 0 0):=by
 obtain rfl|rfl|rfl|rfl|rfl|rfl:i=0∨i=1∨i=2∨i=3∨i=4∨i=5:=by omega
 all_goals kernel_rfl
theorem docZ_ver (L:Int) (f:Nat→Nat→Bool) (i:Nat) (hi:i<6):(docZ L f)[161+i]?=some (.int .i64 0):=by
 obtain rfl|rfl|rfl|rfl|rfl|rfl:i=0∨i=1∨i=2∨i=3∨i=4∨i=5:=by omega
 all_goals kernel_rfl
theorem docZ_wait (L:Int) (f:Nat→Nat→Bool) (i:Nat) (hi:i<6):(docZ L f)[167+i]?=some (.slice none 0 0):=by
 obtain rfl|rfl|rfl|rfl|rfl|rfl:i=0∨i=1∨i=2∨i=3∨i=4∨i=5:=by omega
 all_goals kernel_rfl
theorem docZ_newso (L:Int) (f:Nat→Nat→Bool):(docZ L f).extract 124 161=ordC L f:=by kernel_rfl
theorem docZ_rules (L:Int) (f:Nat→Nat→Bool):(docZ L f)[37]?=some (.slice none 0 0):=by kernel_rfl
theorem OwnL.setsOther {α:Type} {e:TypeId} {sz:Nat} {f:α→List Value} {w:World} {B:Nat} {v:Value} {l:List α} (h:OwnL e sz f w B v l) {g o:Nat} {vs:List Value} (hne:∀ b,v.ownBlock=some b→b≠g):OwnL e sz f (w.setCells g o vs) B v l:=by
 refine h.kept (row:=some g) ⟨(os_setCells g vs o w).1,(os_setCells g vs o w).2.1,(os_setCells g vs o w).2.2,by rw [size_setCells];exact Nat.le_refl _,fun k _ hk=>heap_setCells_other g k (fun e=>hk (by rw [e])) vs o w⟩ (fun b h1 h2=>hne b h1 (Option.some.inj h2).symm)
def nwZ:NW:=⟨fun _=>.slice none 0 0,fun _=>0,fun _=>.slice none 0 0⟩
theorem docC_new (n:Nat) (f GR:Nat→Nat→Bool) (rv:Value):DocC (putCells ((docZ n f).setIfInBounds 37 rv) 38 (tabC GR).toList) n f rv GR (.slice none 0 0) (fun _=>0) nwZ:=by
 have hz:=docZ_size n f
 have ht:(tabC GR).toList.length=36:=by rw [Array.length_toList,tabC_size]
 have hs:38+(tabC GR).toList.length≤((docZ n f).setIfInBounds 37 rv).size:=by rw [Array.size_setIfInBounds,hz,ht];omega
 refine⟨by rw [putCells_size,Array.size_setIfInBounds,hz],?_,?_,fun a b ha hb=>?_,?_,?_,fun i hi=>?_,fun i hi=>?_,?_,fun i hi=>?_,fun i hi=>?_⟩
 ·rw [extract_put hs (by omega),extract_set (by omega),docZ_ord]
 ·rw [putCells_get _ _ _ _ hs,if_neg (by omega),Array.getElem?_setIfInBounds,if_pos rfl,if_pos (by omega)]
 ·rw [putCells_get _ _ _ _ hs,if_pos (by omega),Array.getElem?_toList,show 38+a*6+b-38=a*6+b by omega,tabC_get _ _ _ ha hb]
 ·rw [extract_put hs (by omega),extract_set (by omega),docZ_rowo]
 ·rw [putCells_get _ _ _ _ hs,if_neg (by omega),Array.getElem?_setIfInBounds,if_neg (by omega),docZ_cells]
 ·rw [putCells_get _ _ _ _ hs,if_neg (by omega),Array.getElem?_setIfInBounds,if_neg (by omega),docZ_ins _ _ _ (by omega)];rfl
 ·rw [putCells_get _ _ _ _ hs,if_neg (by omega),Array.getElem?_setIfInBounds,if_neg (by omega),docZ_log _ _ _ (by omega)];rfl
 ·rw [extract_put hs (by omega),extract_set (by omega),docZ_newso]
 ·rw [putCells_get _ _ _ _ hs,if_neg (by omega),Array.getElem?_setIfInBounds,if_neg (by omega),docZ_ver _ _ _ (by omega)];rfl
 ·rw [putCells_get _ _ _ _ hs,if_neg (by omega),Array.getElem?_setIfInBounds,if_neg (by omega),docZ_wait _ _ _ (by omega)];rfl
theorem CfgRight.is {c:Cfg} (h:CheckIs c 0):CfgRight c:=by
 obtain⟨h1,h2,h3⟩:=h.right rfl
 refine⟨h1,h3,?_,?_⟩
 ·cases hr:rulesB c
  ·have:=h.four h1 h2 h3 hr;omega
  ·rfl
 ·cases hr:rulesB c
  ·have:=h.four h1 h2 h3 hr;omega
  ·cases hg:grantsB c
   ·have:=h.five h1 h2 h3 hr hg;omega
   ·rfl
theorem CfgRight.grant {c:Cfg} (h:CfgRight c):c.grants.length≤30∧∀ p,p ∈ c.grants→okL c.n p.1=true∧okL c.n p.2=true:=by
 obtain⟨_,_,_,_,hn,_,_⟩:=labels_of h.labels
 have hg:=h.grants
 unfold grantsB at hg
 simp only [Bool.and_eq_true,decide_eq_true_eq,List.all_eq_true] at hg
 refine⟨hg.1,fun p hp=>?_⟩
 have:=hg.2 p hp
 unfold grantOk at this
 simp only [Bool.and_eq_true] at this
 rw [hn]
 exact⟨this.1.1.1,this.1.1.2⟩
theorem grTo_all (c:Cfg):grTo c.grants c.grants.length=grF c:=by funext a b;unfold grTo grF;rw [List.take_length]
theorem vOpen_ok (c:Cfg) (v:CfgV) (w:World) (hok:CfgOk c) (hat:CfgAt w c v) (hcap:c.rules.length≤v.rc) (hk:CheckIs c 0) :
  Calls Tryz.prog 20 #[.agg (cfgCells c v)] w fun e w'=>∃ g rv,e=.returned (.tuple #[.pointer (some ⟨g,0,none⟩),.int .i64 0])∧PBox w' g c.n (tT c) rv (grF c) (.slice none 0 0) (fun _=>0) nwZ∧OwnL 163 2 ruleV w' w.heap.size rv c.rules∧w.heap.size≤g∧(∀ b,rv.ownBlock=some b→b≠g)∧Below w.heap.size w w':=by
 have hR:=CfgRight.is hk
 have HQ:=hide (fun w' (hb:Below w.heap.size w w')=>cCheck_any c v w' hok (hat.below hb) hcap)
 have HB0:=hide (below_box w (.cells (cfgCells c v) 31))
 have HX0:=hide (box_new w c v)
 have HK:=hide hk
 obtain⟨hr8,_⟩:=hR.rule
 obtain⟨hg30,hgo⟩:=hR.grant
 have hn6:c.n≤6:=(labels_of hR.labels).2.2.2.2.2.1
 have HCP:=hide (fun w' (hb:Below w.heap.size w w')=>dcCopyOf_any c.rules v.ra v.rc w' (hat.below hb).rules hr8)
 have HGB:=hide (fun w' (hb:Below w.heap.size w w')=>dcGranted_any c.grants v.ga v.gc c.n (tT c) w' (hat.below hb).grants hg30 hn6 hgo)
 have HGA:=hide (grTo_all c)
 rw [HGA.out] at HGB
 clear hok hat hcap hk hR hgo HGA
 unfold cfgCells at *
 go_enter Tryz.func20,Tryz.ntmps20
 go_wp2_with fail
 refine (HQ.out _ HB0.out).mono ?_
 rintro e w1 ⟨code,L,f,rfl,⟨hc,hz⟩,hb1⟩
 obtain rfl:=hc.same HK.out
 obtain⟨rfl,rfl⟩:=hz rfl
 generalize hnn:c.n=n at *
 generalize hff:tT c=f at *
 generalize hgg:grF c=GR at *
 have HNN:=hide hnn
 have HFF:=hide hff
 have HGG:=hide hgg
 clear hnn hff hgg
 have hbel1:=HB0.out.trans (hb1.mono (by simp))
 have HX1:=hide (HX0.out.below hb1 HX0.out.lt)
 have HN:=hide (Go.heap_alloc_new w1 (.cells (ordC 0 noF) 105))
 have i2:rowIs (w1.alloc (.cells (ordC 0 noF) 105)) w1.heap.size 37:=⟨_,_,HN.out,ordC_size _ _⟩
 have hbel3:Below w.heap.size w ((w1.alloc (.cells (ordC 0 noF) 105)).setRow w1.heap.size (ordC n f)):=below_setRow (hbel1.alloc hbel1.size _) hbel1.size _
 have HO3:Hid (OrdAt ((w1.alloc (.cells (ordC 0 noF) 105)).setRow w1.heap.size (ordC n f)) w1.heap.size n f):=setRow_heap _ _ _ (ordC n f) _ _ HN.out
 have hxl:=HX1.out.lt
 have HX3:=hide (show BoxAt ((w1.alloc (.cells (ordC 0 noF) 105)).setRow w1.heap.size (ordC n f)) w.heap.size c v from (setRow_other _ _ _ _ (Nat.ne_of_lt hxl)).trans (row_alloc' HX1.out))
 have i3:=HO3.out.is
 have a3:=HO3.out.at
 have ho3:=HO3.out.lt
 have HNW:=hide (fun w'=>rwNew_any n f w')
 have HNN2:=hide (fun w'=>nwNew_any n f w')
 clear hb1 HB0 hc HK HQ
 go_wp2_with (first|(refine wpList_alloc_ord rfl rfl ?_)|((with_reducible (refine at_dst 16 ?_));generalize hw3:(w1.alloc (.cells (ordC 0 noF) 105)).setRow w1.heap.size (ordC n f)=w3 at *;clear hw3;have HN4:=hide (Go.heap_alloc_new w3 (.cells (docY 0 noF) 119));have hbA:Below w3.heap.size w3 (w3.alloc (.cells (docY 0 noF) 119)):=below_box w3 _;have HX4:=hide (HX3.out.below hbA HX3.out.lt);have HO4:=hide (HO3.out.below hbA ho3);have hbel4:=hbel3.trans (hbA.mono hbel3.size);obtain⟨j4,_⟩:=whole_at HN4.out (docY_size _ _);have k4:=docY_ok n f;have HN5:=hide (whole_store HN4.out (docY_size _ _) (docY n f) (docY_size _ _));have hogd:w1.heap.size≠w3.heap.size:=Nat.ne_of_lt ho3;have hxgd:w.heap.size≠w3.heap.size:=Nat.ne_of_lt HX3.out.lt;have hgd0:w.heap.size≤w3.heap.size:=hbel3.size;have HO5:Hid (OrdAt ((w3.alloc (.cells (docY 0 noF) 119)).setCells w3.heap.size 0 (docY n f).toList) w1.heap.size n f):=(heap_setCells_other _ _ hogd _ _ _).trans HO4.out;have i5:=HO5.out.is;have a5:=HO5.out.at;have HX5:Hid (BoxAt ((w3.alloc (.cells (docY 0 noF) 119)).setCells w3.heap.size 0 (docY n f).toList) w.heap.size c v):=(heap_setCells_other _ _ hxgd _ _ _).trans HX4.out;have hb5:=below_setCells hbel4 hgd0 0 (docY n f).toList;(refine wpList_build_doc rfl (.tmp 15) n f rfl rfl ?_))|(refine wpList_alloc_agg rfl rfl zero_doc ?_))
 generalize hw5:(w3.alloc (.cells (docY 0 noF) 119)).setCells w3.heap.size 0 (docY n f).toList=w5 at *
 generalize hgd:w3.heap.size=gd at *
 refine (HNW.out _).mono ?_
 rintro e w6 ⟨rfl,hb6⟩
 have hbel6:=hb5.trans (hb6.mono hb5.size)
 have HN6:=hide (Below.row hb6 HN5.out (lt_of_row HN5.out))
 have HO6:=hide (HO5.out.below hb6 HO5.out.lt)
 have HX6:=hide (HX5.out.below hb6 HX5.out.lt)
 have j6:partIs w6 gd 74 38:=⟨_,_,HN6.out,by rw [docY_size];omega⟩
 have k6:=rowZ_ok n f
 have HN7:Hid ((w6.setCells gd 74 (rowZ n f).toList).heap[gd]?=some (.cells (putCells (docY n f) 74 (rowZ n f).toList) 119 (0,0))):=heap_setCells_same gd _ _ _ _ _ HN6.out
 have HO7:Hid (OrdAt (w6.setCells gd 74 (rowZ n f).toList) w1.heap.size n f):=(heap_setCells_other _ _ hogd _ _ _).trans HO6.out
 have i7:=HO7.out.is
 have a7:=HO7.out.at
 have HX7:Hid (BoxAt (w6.setCells gd 74 (rowZ n f).toList) w.heap.size c v):=(heap_setCells_other _ _ hxgd _ _ _).trans HX6.out
 have hb7:=below_setCells hbel6 hgd0 74 (rowZ n f).toList
 clear i3 a3 j4 k4 i5 a5
 go_wp2_with fail
 generalize hw7:w6.setCells gd 74 (rowZ n f).toList=w7 at *
 refine (HNN2.out _).mono ?_
 rintro e w8 ⟨rfl,hb8⟩
 have hbel8:=hb7.trans (hb8.mono hb7.size)
 have HN8:=hide (Below.row hb8 HN7.out (lt_of_row HN7.out))
 have HO8:=hide (HO7.out.below hb8 HO7.out.lt)
 have HX8:=hide (HX7.out.below hb8 HX7.out.lt)
 have j8:partIs w8 gd 124 49:=⟨_,_,HN8.out,by rw [putCells_size,docY_size];omega⟩
 have k8:=newsZ_ok n f
 have HN9:Hid ((w8.setCells gd 124 (newsZ n f).toList).heap[gd]?=some (.cells (docZ n f) 119 (0,0))):=by
  rw [← doc_laid]
  exact heap_setCells_same gd _ _ _ _ _ HN8.out
 have HO9:Hid (OrdAt (w8.setCells gd 124 (newsZ n f).toList) w1.heap.size n f):=(heap_setCells_other _ _ hogd _ _ _).trans HO8.out
 have HX9:Hid (BoxAt (w8.setCells gd 124 (newsZ n f).toList) w.heap.size c v):=(heap_setCells_other _ _ hxgd _ _ _).trans HX8.out
 have hb9:=below_setCells hbel8 hgd0 124 (newsZ n f).toList
 have HC9:=hide (HCP.out (w8.setCells gd 124 (newsZ n f).toList) hb9)
 obtain⟨q0,q1,q2,q3⟩:=HX9.out.cells
 clear j6 k6 i7 a7
 go_wp2_with fail
 generalize hw9:w8.setCells gd 124 (newsZ n f).toList=w9 at *
 have hgl9:=lt_of_row HN9.out
 refine (HC9.out).mono ?_
 rintro e w10 ⟨rv,rfl,hrv,hb10⟩
 obtain⟨rao,rcap,hrvv⟩:=hrv.shape
 subst hrvv
 have hbel10:=hb9.trans (hb10.mono hb9.size)
 have HN10:=hide (Below.row hb10 HN9.out hgl9)
 have d10:w10.cell? ⟨gd,37,none⟩=(docZ n f)[37]?:=cell_of_row _ _ _ _ _ _ HN10.out
 rw [docZ_rules] at d10
 have f10:w10.frozen? ⟨gd,37,none⟩=false:=frozen_of_row _ _ _ _ _ HN10.out
 have HX10:=hide (HX9.out.below hb10 HX9.out.lt)
 have HO10:=hide (HO9.out.below hb10 HO9.out.lt)
 have hlt10:=HX10.out.lt
 have hod10:=HO10.out.lt
 have HN11:=hide (heap_setCell_same w10 gd 37 _ _ (.slice rao c.rules.length rcap) HN10.out)
 have hxg:w.heap.size≠gd:=hxgd
 have hog:w1.heap.size≠gd:=hogd
 have HX11:Hid (BoxAt (w10.setCell ⟨gd,37,none⟩ (.slice rao c.rules.length rcap)) w.heap.size c v):=row_other HX10.out hxg
 have HO11:Hid (OrdAt (w10.setCell ⟨gd,37,none⟩ (.slice rao c.rules.length rcap)) w1.heap.size n f):=row_other HO10.out hog
 have hrb:∀ b,(Value.slice rao c.rules.length rcap).ownBlock=some b→b≠gd:=fun b hb=>by have:=(hrv.lt hb).1;omega
 have HR11:=hide (hrv.setOther (i:=37) (u:=.slice rao c.rules.length rcap) hrb)
 have hb11:Below w.heap.size w (w10.setCell ⟨gd,37,none⟩ (.slice rao c.rules.length rcap)):=hbel10.setCell (show w.heap.size≤(⟨gd,37,none⟩:Addr).block from hgd0) _
 have HG11:=hide (HGB.out _ hb11)
 obtain⟨r0,r1,r2,r3⟩:=HX11.out.cells
 have i11:=HO11.out.is
 have a11:=HO11.out.at
 have hs11:(w10.setCell ⟨gd,37,none⟩ (.slice rao c.rules.length rcap)).heap.size=w10.heap.size:=by simp [World.setCell]
 clear q0 q1 q2 q3
 go_wp2_with fail
 refine (HG11.out).mono ?_
 rintro e w12 ⟨rfl,hb12⟩
 have hbel12:=hb11.trans (hb12.mono hb11.size)
 have HN12:=hide (Below.row hb12 HN11.out (by rw [hs11];exact lt_of_row HN10.out))
 have HR12:=hide (HR11.out.below hb12)
 have j12:partIs w12 gd 38 36:=⟨_,_,HN12.out,by rw [Array.size_setIfInBounds,docZ_size];omega⟩
 have k12:=tabC_ok GR
 have HPB:Hid (PBox (w12.setCells gd 38 (tabC GR).toList) gd n f (.slice rao c.rules.length rcap) GR (.slice none 0 0) (fun _=>0) nwZ):=⟨_,heap_setCells_same gd _ _ _ _ _ HN12.out,docC_new n f GR _⟩
 have HR13:Hid (OwnL 163 2 ruleV (w12.setCells gd 38 (tabC GR).toList) w9.heap.size (.slice rao c.rules.length rcap) c.rules):=HR12.out.setsOther hrb
 have hb13:=below_setCells hbel12 hgd0 38 (tabC GR).toList
 have hsz9:=hb9.size
 have HRB:=hide hrb
 clear i11 a11 r0 r1 r2 r3 d10 f10
 go_wp2
 go_ret2
 exact⟨gd,_,rfl,by rw [HNN.out,HFF.out,HGG.out];exact HPB.out,HR13.out.mono hsz9,hgd0,HRB.out,hb13⟩
end Go.Proofs.YtgigkiocdiffjaaGreat
