import Derived.Test.YtgigkiocdiffjaaGreatS04
import Derived.BigRegion
set_option maxRecDepth 100000
set_option maxHeartbeats 16000000
namespace Go.Proofs.YtgigkiocdiffjaaGreat
open Go.RowKit Veil
@[go_sem] theorem okRow_ordC (L:Int) (f:Nat→Nat→Bool):okRow (ordC L f) 37=True:=eq_true (ordC_ok L f)
theorem OrdAt.store {w:World} {g a b:Nat} {L:Int} {f f':Nat→Nat→Bool} {x:Bool} (h:OrdAt w g L f) (ha:a<6) (hb:b<6) (hf:∀ i j,i<6→j<6→f' i j=if i=a∧j=b then x else f i j) :
  OrdAt (w.setCell ⟨g,1+a*6+b,none⟩ (.bool x)) g L f':=by
 unfold OrdAt at *
 rw [heap_setCell_same _ _ _ _ _ _ h,ordC_set _ _ _ _ _ ha hb,ordC_congr _ f' _ hf]
theorem OrdAt.same {w:World} {g:Nat} {L:Int} {f f':Nat→Nat→Bool} (h:OrdAt w g L f) (hf:∀ i j,i<6→j<6→f' i j=f i j):OrdAt w g L f':=by
 unfold OrdAt at *
 rw [h,ordC_congr _ f' _ hf]
theorem OrdAt.frozen {w:World} {g:Nat} {L:Int} {f:Nat→Nat→Bool} (h:OrdAt w g L f) (j:Nat):w.frozen? ⟨g,j,none⟩=false:=frozen_of_row _ _ _ _ _ h
theorem rowIs.other {w:World} {g g' j n:Nat} {v:Value} (h:rowIs w g n) (hne:g≠g'):rowIs (w.setCell ⟨g',j,none⟩ v) g n:=by
 obtain⟨cs,t,h1,h2⟩:=h
 exact⟨cs,t,row_other h1 hne,h2⟩
theorem rowIs.below {w w':World} {g n B:Nat} (h:rowIs w g n) (hb:Below B w w') (hg:g<B):rowIs w' g n:=by
 obtain⟨cs,t,h1,h2⟩:=h
 exact⟨cs,t,Below.row hb h1 hg,h2⟩
def diagF (k x y:Nat):Bool:=decide (x=y) && decide (x<k)
def edgeF (E:List (Int × Int)) (n j x y:Nat):Bool:=diagF n x y || (E.take j).any fun e=>decide (e.1.toNat=x) && decide (e.2.toNat=y)
def tabF (E:List (Int × Int)) (n k x y:Nat):Bool:=decide (x<n) && decide (y<n) && fw (fwInit E) k x y
def procF (n k:Nat) (f:Nat→Nat→Bool) (a b x y:Nat):Bool:=if (x<a∨(x=a∧y<b))∧y<n then fwStep k f x y else f x y
theorem edgeF_all (E:List (Int × Int)) (n:Nat) (hE:inE E n) (x y:Nat):edgeF E n E.length x y=tabF E n 0 x y:=by
 unfold edgeF tabF diagF fw fwInit
 rw [List.take_length,Bool.eq_iff_iff]
 simp only [Bool.or_eq_true,Bool.and_eq_true,decide_eq_true_eq,List.any_eq_true]
 constructor
 ·rintro (⟨rfl,h⟩|⟨e,he,rfl,rfl⟩)
  ·exact⟨⟨h,h⟩,Or.inl rfl⟩
  ·have:=hE e he
   exact⟨⟨by omega,by omega⟩,Or.inr ⟨e,he,rfl,rfl⟩⟩
 ·rintro ⟨⟨h1,h2⟩,h|h⟩
  ·exact Or.inl ⟨h,h1⟩
  ·exact Or.inr h
theorem edgeF_succ (E:List (Int × Int)) (n j:Nat) (p q:Nat) (h:E[j]?=some ((p:Int),(q:Int))) (x y:Nat):edgeF E n (j+1) x y=if x=p∧y=q then true else edgeF E n j x y:=by
 unfold edgeF
 rw [List.take_add_one,h]
 simp only [Option.toList_some,List.any_append,List.any_cons,List.any_nil,Bool.or_false,Int.toNat_natCast]
 split
 ·rename_i hh;obtain⟨rfl,rfl⟩:=hh;simp
 ·rename_i hh
  have:(decide (p=x) && decide (q=y))=false:=by
   rw [Bool.eq_false_iff];intro h';apply hh
   simp only [Bool.and_eq_true,decide_eq_true_eq] at h'
   exact⟨h'.1.symm,h'.2.symm⟩
  rw [this,Bool.or_false]
theorem procF_zero (n k:Nat) (f:Nat→Nat→Bool) (x y:Nat):procF n k f 0 0 x y=f x y:=by unfold procF;rw [if_neg (by omega)]
theorem procF_row (n k:Nat) (f:Nat→Nat→Bool) (a x y:Nat):procF n k f (a+1) 0 x y=procF n k f a n x y:=by
 unfold procF
 by_cases h:(x<a∨(x=a∧y<n))∧y<n
 ·rw [if_pos h,if_pos (by omega)]
 ·rw [if_neg h,if_neg (by omega)]
theorem procF_col (n k:Nat) (f:Nat→Nat→Bool) (a b x:Nat):procF n k f a b x k=f x k:=by
 unfold procF fwStep
 split
 ·cases f x k <;> simp
 ·rfl
theorem procF_line (n k:Nat) (f:Nat→Nat→Bool) (a b y:Nat):procF n k f a b k y=f k y:=by
 unfold procF fwStep
 split
 ·cases f k k <;> cases f k y <;> rfl
 ·rfl
theorem procF_succ (n k:Nat) (f:Nat→Nat→Bool) (a b:Nat) (hb:b<n) (x y:Nat):procF n k f a (b+1) x y=if x=a∧y=b then (f a b || (f a k && f k b)) else procF n k f a b x y:=by
 unfold procF
 by_cases h:x=a∧y=b
 ·obtain⟨rfl,rfl⟩:=h
  rw [if_pos (by omega),if_pos ⟨rfl,rfl⟩];rfl
 ·rw [if_neg h]
  by_cases h2:(x<a∨(x=a∧y<b))∧y<n
  ·rw [if_pos h2,if_pos (by omega)]
  ·rw [if_neg h2,if_neg (by omega)]
theorem procF_at (n k:Nat) (f:Nat→Nat→Bool) (a b:Nat):procF n k f a b a b=f a b:=by unfold procF;rw [if_neg (by omega)]
theorem procF_done (E:List (Int × Int)) (n k:Nat) (hk:k<n) (x y:Nat):procF n k (tabF E n k) n 0 x y=tabF E n (k+1) x y:=by
 unfold procF
 by_cases h:(x<n∨(x=n∧y<0))∧y<n
 ·rw [if_pos h]
  have h1:x<n:=by omega
  simp [fwStep,tabF,fw,h1,h.2,hk]
 ·rw [if_neg h]
  unfold tabF
  have:(decide (x<n) && decide (y<n))=false:=by
   rw [Bool.eq_false_iff];intro h'
   simp only [Bool.and_eq_true,decide_eq_true_eq] at h'
   omega
  rw [this];rfl
theorem ordC_build (L:Int):ordC L (fun _ _=>false)=#[.int .i64 L,.bool false,.bool false,.bool false,.bool false,.bool false,.bool false,.bool false,.bool false,.bool false,.bool false,.bool false,.bool false,.bool false,.bool false,.bool false,.bool false,.bool false,.bool false,.bool false,.bool false,.bool false,.bool false,.bool false,.bool false,.bool false,.bool false,.bool false,.bool false,.bool false,.bool false,.bool false,.bool false,.bool false,.bool false,.bool false,.bool false]:=by
 simp [ordC,List.range_succ]
def noF:Nat→Nat→Bool:=fun _ _=>false
theorem wpList_alloc_ord {w:World} {ops:Array Oper} {rest:List Oper} {o:Oper} {a:Act} {Q:Exit→Act→World→Prop} (hgd:o.guard=none) (ho:o.op=.alloc 105)
  (h:wpList Tryz.prog ops Q rest (a.put o.dst (.pointer (some ⟨w.heap.size,0,none⟩))) (w.alloc (.cells (ordC 0 noF) 105))):wpList Tryz.prog ops Q (o :: rest) a w:=by
 refine wpList_plain hgd fun K hK=>?_
 have h':=hK _ _ h
 unfold noF at h'
 rw [ordC_build] at h'
 clear hK h
 obtain⟨dst,op,ty,pos,aft,gd⟩:=o
 simp only at ho
 subst ho
 go_simp
 exact h'
theorem built_ord (L:Int):(Tryz.prog.built 105 [(0,.int .i64 L)]).getD #[]=#[.int .i64 L,.bool false,.bool false,.bool false,.bool false,.bool false,.bool false,.bool false,.bool false,.bool false,.bool false,.bool false,.bool false,.bool false,.bool false,.bool false,.bool false,.bool false,.bool false,.bool false,.bool false,.bool false,.bool false,.bool false,.bool false,.bool false,.bool false,.bool false,.bool false,.bool false,.bool false,.bool false,.bool false,.bool false,.bool false,.bool false,.bool false]:=by kernel_rfl
theorem built_zero:(Tryz.prog.built 105 []).getD #[]=#[.int .i64 0,.bool false,.bool false,.bool false,.bool false,.bool false,.bool false,.bool false,.bool false,.bool false,.bool false,.bool false,.bool false,.bool false,.bool false,.bool false,.bool false,.bool false,.bool false,.bool false,.bool false,.bool false,.bool false,.bool false,.bool false,.bool false,.bool false,.bool false,.bool false,.bool false,.bool false,.bool false,.bool false,.bool false,.bool false,.bool false,.bool false]:=by kernel_rfl
theorem built_ord' (L:Int):(Tryz.prog.built 105 [(0,.int .i64 L)]).isSome=true:=by kernel_rfl
theorem built_zero':(Tryz.prog.built 105 []).isSome=true:=by kernel_rfl
theorem wpList_build_ord {w:World} {ops:Array Oper} {rest:List Oper} {o:Oper} {a:Act} {Q:Exit→Act→World→Prop} (hgd:o.guard=none) (x:Operand) (L:Int) (ho:o.op=.build 105 #[(0,x)]) (hx:a.eval x=.int .i64 L)
  (h:wpList Tryz.prog ops Q rest (a.put o.dst (.agg (ordC L noF))) w):wpList Tryz.prog ops Q (o :: rest) a w:=by
 refine wpList_build hgd 105 #[(0,x)] ho (by simp only [List.map_toArray,List.map_cons,List.map_nil,hx];exact built_ord' L) ?_
 simp only [List.map_toArray,List.map_cons,List.map_nil,hx]
 rw [built_ord L]
 unfold noF at h
 rw [ordC_build] at h
 exact h
theorem wpList_build_zero {w:World} {ops:Array Oper} {rest:List Oper} {o:Oper} {a:Act} {Q:Exit→Act→World→Prop} (hgd:o.guard=none) (ho:o.op=.build 105 #[])
  (h:wpList Tryz.prog ops Q rest (a.put o.dst (.agg (ordC 0 noF))) w):wpList Tryz.prog ops Q (o :: rest) a w:=by
 have e:((#[]:Array (Nat × Operand)).map fun (i,x)=>(i,a.eval x)).toList=[]:=by simp
 refine wpList_build hgd 105 #[] ho (by rw [e];exact built_zero') ?_
 rw [e,built_zero]
 unfold noF at h
 rw [ordC_build] at h
 exact h
theorem rowIs_two (w:World) (o:Obj) (L:Int) (f:Nat→Nat→Bool):rowIs ((w.alloc o).alloc (.cells (ordC L f) 105)) (w.heap.size+1) 37:=⟨_,_,heap_alloc2_new _ _ _,ordC_size _ _⟩
theorem follow_any (n:Nat) (E:List (Int × Int)) (ea:Option Addr) (ec:Nat) (w:World) (hn:n≤6) (hE30:E.length≤30) (hE:inE E n) (hat:SeqAt xE yE w ea E) :
  Calls Tryz.prog 144 #[.int .i64 n,.slice ea E.length ec] w fun e w'=>e=.returned (.agg (ordC n (tabF E n n)))∧Below w.heap.size w w':=by
 have HE:=hide hE
 have HA:=hide hat
 have r1:=fun (o:Obj) (L:Int) (f:Nat→Nat→Bool)=>rowIs_two w o L f
 clear hE hat
 go_enter Tryz.func144,Tryz.ntmps144
 go_wp2_with (first|(refine wpList_alloc_ord rfl rfl ?_)|(refine wpList_build_ord rfl (.tmp 12) n rfl rfl ?_))
 go_loopw [6] (fun i wr=>∃ k:Nat,k≤n∧i=.int .i64 k∧OrdAt wr (w.heap.size+1) n (diagF k)∧rowIs wr w.heap.size 37∧Below w.heap.size w wr) (fun i _=>n-(intOf i).toNat)
 case atStart=>
  refine⟨0,Nat.zero_le _,rfl,?_,?_,below_setRow ((below_box _ _).alloc (by simp) _) (by omega) _⟩
  ·have:=setRow_heap _ _ _ (ordC n noF) _ _ (heap_alloc2_new w (.cells (ordC 0 noF) 105) (.cells (ordC 0 noF) 105))
   exact OrdAt.same (f:=noF) this (fun i j _ _=>by simp [diagF,noF])
  ·exact⟨ordC 0 noF,105,(setRow_other _ _ _ _ (by omega)).trans (heap_alloc2_old _ _ _),ordC_size _ _⟩
 case round=>
  obtain⟨k,hk,rfl,hO,hres,hbel⟩:=hrel
  have HO:=hide hO
  have HR:=hide hres
  by_cases hlt:k<n
  ·have c1:=hO.cell k k (by omega) (by omega)
   have f1:=hO.frozen (1+k*6+k)
   clear hO hres
   go_wp2
   go_roundw
   case rel=>
    refine⟨k+1,by omega,by go_num,HO.out.store (by omega) (by omega) (fun i j _ _=>?_),HR.out.other (by omega),hbel.setCell (by dsimp only;omega) _⟩
    unfold diagF
    by_cases e:i=k∧j=k
    ·obtain⟨rfl,rfl⟩:=e;simp
    ·rw [if_neg e]
     by_cases e2:i=j
     ·subst e2
      have:decide (i<k+1)=decide (i<k):=by rw [decide_eq_decide];omega
      rw [this]
     ·simp [e2]
   case measure=>simp [intOf];omega
  ·have hke:k=n:=by omega
   have HO0:Hid (OrdAt wr (w.heap.size+1) n (edgeF E n 0)):=HO.out.same (fun i j _ _=>by rw [hke];simp [edgeF])
   clear hO hres hke HO
   go_wp2
   go_loopw [26] (fun i wr=>∃ j:Nat,j≤E.length∧i=.int .i64 j∧OrdAt wr (w.heap.size+1) n (edgeF E n j)∧rowIs wr w.heap.size 37∧Below w.heap.size w wr) (fun i _=>E.length-(intOf i).toNat)
   case atStart=>exact⟨0,Nat.zero_le _,rfl,HO0.out,HR.out,hbel⟩
   case round=>
    clear HO0 HR hbel hk hlt
    obtain⟨j,hj,rfl,hO,hres,hbel⟩:=hrel
    have HO:=hide hO
    have HR:=hide hres
    by_cases hlt:j<E.length
    ·have hej:E[j]?=some E[j]:=List.getElem?_eq_getElem hlt
     obtain⟨b,off,hao,hbl,d1,d2⟩:=HA.out.at hbel hej
     have hin:=HE.out _ (List.getElem_mem hlt)
     generalize E[j]=e at *
     obtain⟨e1,e2⟩:=e
     simp only [xE,yE] at hin d1 d2
     obtain⟨h1,h2,h3,h4⟩:=hin
     obtain⟨x,rfl⟩:=Int.eq_ofNat_of_zero_le h1
     obtain⟨y,rfl⟩:=Int.eq_ofNat_of_zero_le h3
     have HS:=hide (edgeF_succ E n j x y hej)
     have c1:=hO.cell x y (by omega) (by omega)
     have f1:=hO.frozen (1+x*6+y)
     have hbw:b<wr.heap.size:=Nat.lt_of_lt_of_le hbl hbel.size
     have hOlt:=hO.lt
     have hx6:(x:Int)<6:=by omega
     have hy6:(y:Int)<6:=by omega
     have hidx:∀ w',(Instr.indexAt 27 (.slice ea E.length ec) (.int .i64 (j:Int))).run Tryz.prog w'=.ok (.pointer (some ⟨b,off+j*2,none⟩)) w':=by
      intro w'
      have hji:(j:Int)<(E.length:Int):=by omega
      rw [hao]
      go_simp
     clear hO hres hej h1 h2 h3 h4 hao
     go_wp2_with fail
     go_region
     all_goals
      go_wp2
      go_roundw
      case rel=>
       have S1:=HO.out.store (x:=true) (f':=edgeF E n (j+1)) (a:=x) (b:=y) (by omega) (by omega) (fun i k _ _=>HS.out i k)
       have R1:rowIs (wr.setCell ⟨w.heap.size+1,1+x*6+y,none⟩ (.bool true)) w.heap.size 37:=HR.out.other (by omega)
       exact⟨j+1,by omega,by go_num,S1.below (below_box _ _).drew S1.lt,R1.below (below_box _ _).drew (Nat.lt_of_succ_lt S1.lt),((hbel.setCell (by dsimp only;omega) _).alloc (by have:=S1.lt;omega) _).drew⟩
      case measure=>simp [intOf];omega
    ·have HT0:Hid (OrdAt wr (w.heap.size+1) n (tabF E n 0)):=HO.out.same (fun i k _ _=>by rw [← edgeF_all E n HE.out,show j=E.length by omega])
     clear hO hres HO
     go_wp2
     go_loopw [9] (fun i wr=>∃ k:Nat,k≤n∧i=.int .i64 k∧OrdAt wr (w.heap.size+1) n (tabF E n k)∧rowIs wr w.heap.size 37∧Below w.heap.size w wr) (fun i _=>n-(intOf i).toNat)
     case atStart=>exact⟨0,Nat.zero_le _,rfl,HT0.out,HR.out,hbel⟩
     case round=>
      clear HT0 HR hbel hj hlt
      obtain⟨k,hk,rfl,hO,hres,hbel⟩:=hrel
      have HO:=hide hO
      have HR:=hide hres
      by_cases hkn:k<n
      ·clear hO hres
       go_wp2
       go_loopw [10] (fun i wr=>∃ a:Nat,a≤n∧i=.int .i64 a∧OrdAt wr (w.heap.size+1) n (procF n k (tabF E n k) a 0)∧rowIs wr w.heap.size 37∧Below w.heap.size w wr) (fun i _=>n-(intOf i).toNat)
       case atStart=>exact⟨0,Nat.zero_le _,rfl,HO.out.same (fun i j _ _=>procF_zero _ _ _ _ _),HR.out,hbel⟩
       case round=>
        clear HO HR hbel
        obtain⟨a,ha,rfl,hO,hres,hbel⟩:=hrel
        have HO:=hide hO
        have HR:=hide hres
        by_cases han:a<n
        ·clear hO hres
         go_wp2
         go_loopw [11] (fun i wr=>∃ b:Nat,b≤n∧i=.int .i64 b∧OrdAt wr (w.heap.size+1) n (procF n k (tabF E n k) a b)∧rowIs wr w.heap.size 37∧Below w.heap.size w wr) (fun i _=>n-(intOf i).toNat)
         case atStart=>exact⟨0,Nat.zero_le _,rfl,HO.out,HR.out,hbel⟩
         case round=>
          clear HO HR hbel
          obtain⟨b,hb,rfl,hO,hres,hbel⟩:=hrel
          have HO:=hide hO
          have HR:=hide hres
          by_cases hbn:b<n
          ·have c1:=hO.cell a k (by omega) (by omega)
           have c2:=hO.cell k b (by omega) (by omega)
           have c3:=hO.cell a b (by omega) (by omega)
           have f3:=hO.frozen (1+a*6+b)
           rw [procF_col] at c1
           rw [procF_line] at c2
           rw [procF_at] at c3
           have HS:=hide (procF_succ n k (tabF E n k) a b hbn)
           have HAT:=hide (procF_at n k (tabF E n k) a b)
           generalize hT:tabF E n k=T at *
           clear hO hres
           cases h1:T a k
           ·rw [h1] at c1
            have H1:=hide h1
            clear h1
            go_wp2
            go_roundw
            case rel=>exact⟨b+1,by omega,by go_num,HO.out.same (fun i j _ _=>by
             rw [HS.out,H1.out]
             split
             ·rename_i e;obtain⟨rfl,rfl⟩:=e;rw [HAT.out];simp
             ·rfl),HR.out,hbel⟩
            case measure=>simp [intOf];omega
           ·rw [h1] at c1
            cases h2:T k b
            ·rw [h2] at c2
             have H2:=hide h2
             clear h1 h2
             go_wp2
             go_roundw
             case rel=>exact⟨b+1,by omega,by go_num,HO.out.same (fun i j _ _=>by
              rw [HS.out,H2.out]
              split
              ·rename_i e;obtain⟨rfl,rfl⟩:=e;rw [HAT.out];simp
              ·rfl),HR.out,hbel⟩
             case measure=>simp [intOf];omega
            ·rw [h2] at c2
             have H1:=hide h1
             have H2:=hide h2
             clear h1 h2
             go_wp2
             go_roundw
             case rel=>exact⟨b+1,by omega,by go_num,HO.out.store (by omega) (by omega) (fun i j _ _=>by rw [HS.out,H1.out,H2.out];simp),HR.out.other (by omega),hbel.setCell (by dsimp only;omega) _⟩
             case measure=>simp [intOf];omega
          ·have hbe:b=n:=by omega
           have HO2:Hid (OrdAt wr (w.heap.size+1) n (procF n k (tabF E n k) (a+1) 0)):=HO.out.same (fun i j _ _=>by rw [procF_row,hbe])
           clear hO hres hbe
           go_wp2
           go_roundw
           case rel=>exact⟨a+1,by omega,by go_num,HO2.out,HR.out,hbel⟩
           case measure=>simp [intOf];omega
        ·have HO2:Hid (OrdAt wr (w.heap.size+1) n (tabF E n (k+1))):=HO.out.same (fun i j _ _=>by rw [← procF_done E n k hkn,show a=n by omega])
         clear hO hres
         go_wp2
         go_roundw
         case rel=>exact⟨k+1,by omega,by go_num,HO2.out,HR.out,hbel⟩
         case measure=>simp [intOf];omega
      ·have hke:k=n:=by omega
       rw [hke] at hO
       have i0:=hO.is
       have a0:=hO.at
       have HO2:=hide hO
       clear hO hke HO
       go_wp2
       obtain⟨cs,t',q1,q2⟩:=HR.out
       exact bodyPost_ret (results_cell_row Tryz.results144 _ _ w.heap.size t' (ordC n (tabF E n n)) (0,0) _ (by simp) (setRow_heap _ _ _ _ _ _ q1) Tryz.underlying105 rfl (by rw [Tryz.sizeOrder,ordC_size])) rfl ⟨rfl,below_setRow hbel (Nat.le_refl _) _⟩
end Go.Proofs.YtgigkiocdiffjaaGreat
namespace Go.Proofs.YtgigkiocdiffjaaGreat
open Go.RowKit Veil
def turnF (n:Nat) (f:Nat→Nat→Bool) (a b x y:Nat):Bool:=decide ((x<a∨(x=a∧y<b))∧y<n) && f y x
theorem turnF_zero (n:Nat) (f:Nat→Nat→Bool) (x y:Nat):turnF n f 0 0 x y=false:=by simp [turnF]
theorem turnF_row (n:Nat) (f:Nat→Nat→Bool) (a x y:Nat):turnF n f (a+1) 0 x y=turnF n f a n x y:=by
 unfold turnF
 have:decide ((x<a+1∨(x=a+1∧y<0))∧y<n)=decide ((x<a∨(x=a∧y<n))∧y<n):=by rw [decide_eq_decide];omega
 rw [this]
theorem turnF_succ (n:Nat) (f:Nat→Nat→Bool) (a b:Nat) (hb:b<n) (x y:Nat):turnF n f a (b+1) x y=if x=a∧y=b then f b a else turnF n f a b x y:=by
 unfold turnF
 by_cases h:x=a∧y=b
 ·obtain⟨rfl,rfl⟩:=h
  rw [if_pos ⟨rfl,rfl⟩,decide_eq_true (by omega)];rfl
 ·rw [if_neg h]
  have:decide ((x<a∨(x=a∧y<b+1))∧y<n)=decide ((x<a∨(x=a∧y<b))∧y<n):=by rw [decide_eq_decide];omega
  rw [this]
theorem alloc3_ord (w:World) (o1 o2:Obj) (L:Int) (f:Nat→Nat→Bool):rowIs (((w.alloc o1).alloc o2).alloc (.cells (ordC L f) 105)) (w.heap.size+2) 37:=⟨_,_,alloc3_2 _ _ _ _,ordC_size _ _⟩
theorem turn_any (n:Nat) (f:Nat→Nat→Bool) (w:World) (hn:n≤6) :
  Calls Tryz.prog 157 #[.agg (ordC n f)] w fun e w'=>e=.returned (.agg (ordC n (turnF n f n 0)))∧Below w.heap.size w w':=by
 have z0:∀ o,((w.alloc (.cells (ordC n f) 105)).alloc o).cell? ⟨w.heap.size,0,none⟩=some (.int .i64 n):=fun o=>((ord_new w n f).below (below_box _ o) (by simp)).zero
 have r1:=fun (o1 o2:Obj) (L:Int) (g:Nat→Nat→Bool)=>alloc3_ord w o1 o2 L g
 go_enter Tryz.func157,Tryz.ntmps157
 go_wp2_with (first|(refine wpList_alloc_ord rfl rfl ?_)|(refine wpList_build_ord rfl (.tmp 7) n rfl rfl ?_))
 go_loopw [4] (fun i wr=>∃ a:Nat,a≤n∧i=.int .i64 a∧OrdAt wr (w.heap.size+2) n (turnF n f a 0)∧rowIs wr (w.heap.size+1) 37∧OrdAt wr w.heap.size n f∧Below w.heap.size w wr) (fun i _=>n-(intOf i).toNat)
 case atStart=>
  refine⟨0,Nat.zero_le _,rfl,?_,?_,?_,below_setRow (((below_box _ _).alloc (by simp) _).alloc (by simp;omega) _) (by omega) _⟩
  ·have:=setRow_heap _ _ _ (ordC n noF) _ _ (alloc3_2 w (.cells (ordC n f) 105) (.cells (ordC 0 noF) 105) (.cells (ordC 0 noF) 105))
   exact OrdAt.same (f:=noF) this (fun i j _ _=>turnF_zero _ _ _ _)
  ·exact⟨ordC 0 noF,105,(setRow_other _ _ _ _ (by omega)).trans (alloc3_1 _ _ _ _),ordC_size _ _⟩
  ·exact (setRow_other _ _ _ _ (by omega)).trans (alloc3_0 _ _ _ _)
 case round=>
  clear z0 r1
  obtain⟨a,ha,rfl,hT,hres,hO,hbel⟩:=hrel
  have HT:=hide hT
  have HR:=hide hres
  have HO:=hide hO
  have z0:=hO.zero
  by_cases hlt:a<n
  ·clear hT hres hO
   go_wp2
   go_loopw [5] (fun i wr=>∃ b:Nat,b≤n∧i=.int .i64 b∧OrdAt wr (w.heap.size+2) n (turnF n f a b)∧rowIs wr (w.heap.size+1) 37∧OrdAt wr w.heap.size n f∧Below w.heap.size w wr) (fun i _=>n-(intOf i).toNat)
   case atStart=>exact⟨0,Nat.zero_le _,rfl,HT.out,HR.out,HO.out,hbel⟩
   case round=>
    clear HT HR HO z0 hbel
    obtain⟨b,hb,rfl,hT,hres,hO,hbel⟩:=hrel
    have HT:=hide hT
    have HR:=hide hres
    have HO:=hide hO
    have z0:=hO.zero
    by_cases hbn:b<n
    ·have c1:=hO.cell b a (by omega) (by omega)
     have c2:=hT.cell a b (by omega) (by omega)
     have f2:=hT.frozen (1+a*6+b)
     have ha6:(a:Int)<6:=by omega
     have hb6:(b:Int)<6:=by omega
     have HS:=hide (turnF_succ n f a b hbn)
     clear hT hres hO
     go_wp2_with fail
     go_region
     all_goals
      go_wp2
      go_roundw
      case rel=>
       have S1:OrdAt (wr.drew.setCell ⟨w.heap.size+2,1+a*6+b,none⟩ (.bool (f b a))) (w.heap.size+2) n (turnF n f a (b+1)):=OrdAt.store (f:=turnF n f a b) HT.out (by omega) (by omega) (fun i j _ _=>HS.out i j)
       exact⟨b+1,by omega,by go_num,S1,HR.out.other (by omega),row_other HO.out (by omega),hbel.drew.setCell (by dsimp only;omega) _⟩
      case measure=>simp [intOf];omega
    ·have HT2:Hid (OrdAt wr (w.heap.size+2) n (turnF n f (a+1) 0)):=HT.out.same (fun i j _ _=>by rw [turnF_row,show b=n by omega])
     clear hT hres hO
     go_wp2
     go_roundw
     case rel=>exact⟨a+1,by omega,by go_num,HT2.out,HR.out,HO.out,hbel⟩
     case measure=>simp [intOf];omega
  ·have hke:a=n:=by omega
   rw [hke] at hT
   have i0:=hT.is
   have a0:=hT.at
   clear hT hO hke
   go_wp2
   obtain⟨cs,t',q1,q2⟩:=HR.out
   exact bodyPost_ret (results_cell_row Tryz.results157 _ _ (w.heap.size+1) t' (ordC n (turnF n f n 0)) (0,0) _ (by simp) (setRow_heap _ _ _ _ _ _ q1) Tryz.underlying105 rfl (by rw [Tryz.sizeOrder,ordC_size])) rfl ⟨rfl,below_setRow hbel (by omega) _⟩
def latO (n:Nat) (f:Nat→Nat→Bool):Prop:=joinsO n f∧joinsO n (turnF n f n 0)
theorem isLattice_any (n:Nat) (f:Nat→Nat→Bool) (w:World) (hn:n≤6) :
  Calls Tryz.prog 146 #[.agg (ordC n f)] w fun e w'=>RetB e (latO n f)∧Below w.heap.size w w':=by
 have HO:=hide (ord_new w n f)
 have i0:=(ord_new w n f).is
 have a0:=(ord_new w n f).at
 go_enter Tryz.func146,Tryz.ntmps146
 go_wp2_with fail
 refine (turn_any n f _ hn).mono ?_
 rintro e w1 ⟨rfl,hb1⟩
 have HO1:=hide (HO.out.below hb1 (by simp))
 have hbel1:=(below_box w (.cells (ordC n f) 105)).trans (hb1.mono (by simp))
 have HN:=hide (Go.heap_alloc_new w1 (.cells (ordC 0 noF) 105))
 have i1:rowIs (w1.alloc (.cells (ordC 0 noF) 105)) w1.heap.size 37:=⟨_,_,HN.out,ordC_size _ _⟩
 have HN2:=hide (setRow_heap _ _ _ (ordC n (turnF n f n 0)) _ _ HN.out)
 have HO2:Hid (OrdAt ((w1.alloc (.cells (ordC 0 noF) 105)).setRow w1.heap.size (ordC n (turnF n f n 0))) w.heap.size n f):=(setRow_other _ _ _ _ (Nat.ne_of_lt HO1.out.lt)).trans (row_alloc' HO1.out)
 have i2:=HO2.out.is
 have a2:=HO2.out.at
 have hbel2:Below w.heap.size w ((w1.alloc (.cells (ordC 0 noF) 105)).setRow w1.heap.size (ordC n (turnF n f n 0))):=below_setRow (hbel1.alloc hbel1.size _) hbel1.size _
 have hlt1:=HO1.out.lt
 clear hb1 i0 a0
 go_wp2_with (refine wpList_alloc_ord rfl rfl ?_)
 refine (hasJoins_any n f _ hn).mono ?_
 rintro e w2 ⟨⟨r,rfl,hr⟩,hb2⟩
 have HN3:Hid (OrdAt w2 w1.heap.size n (turnF n f n 0)):=Below.row hb2 HN2.out (lt_of_row HN2.out)
 have i3:=HN3.out.is
 have a3:=HN3.out.at
 have hbel3:=hbel2.trans (hb2.mono hbel2.size)
 have HR:=hide hr
 clear hb2 i1 i2 a2 hr
 cases r
 ·have HF:Hid (¬ latO n f):=fun h=>by have:=HR.out.2 h.1;simp at this
  go_wp2
  go_ret
  exact⟨RetB.no HF.out,hbel3⟩
 ·go_wp2_with fail
  refine (hasJoins_any n (turnF n f n 0) _ hn).mono ?_
  rintro e w3 ⟨⟨r2,rfl,hr2⟩,hb3⟩
  have hbel4:=hbel3.trans (hb3.mono hbel3.size)
  have HR2:=hide hr2
  clear hb3 i3 a3 hr2
  go_wp2
  go_ret
  exact⟨⟨r2,rfl,⟨fun h=>⟨HR.out.1 (by simp),HR2.out.1 h⟩,fun h=>HR2.out.2 h.2⟩⟩,hbel4⟩
end Go.Proofs.YtgigkiocdiffjaaGreat
namespace Go.Proofs.YtgigkiocdiffjaaGreat
open Go.RowKit Veil
theorem areLabels_any (c:Cfg) (ea:Option Addr) (ec:Nat) (w:World) (k1:c.edges.length<2 ^ 57) (hat:SeqAt xE yE w ea c.edges) :
  Calls Tryz.prog 143 #[.int .i64 c.labels,.slice ea c.edges.length ec] w fun e w'=>e=.returned (.bool (labelsB c))∧Below w.heap.size w w':=by
 have HE:=hide hat
 have HD:=hide (show labelsB c=(decide (1≤c.labels) && decide (c.labels≤6) && decide (c.edges.length≤30) && c.edges.all (edgeOk c.labels)) from rfl)
 have HQ:=hide (fun (a:Int) (w':World)=>inRange_any c.labels a w')
 clear hat
 generalize hL:c.labels=L at *
 clear hL
 by_cases h1:L<1
 ·go_enter Tryz.func143,Tryz.ntmps143
  go_wp2
  go_ret
  exact⟨ret_bool (by rw [HD.out];simp;omega),Below.refl _ _⟩
 by_cases h2:6<L
 ·go_enter Tryz.func143,Tryz.ntmps143
  go_wp2
  go_ret
  exact⟨ret_bool (by rw [HD.out];simp;omega),Below.refl _ _⟩
 by_cases h3:30<c.edges.length
 ·have h3':(30:Int)<(c.edges.length:Int):=by omega
  go_enter Tryz.func143,Tryz.ntmps143
  go_wp2
  go_ret
  exact⟨ret_bool (by rw [HD.out];simp;omega),Below.refl _ _⟩
 have HR:=hide (show labelsB c=c.edges.all (edgeOk L) by rw [HD.out];simp [show 1≤L by omega,show L≤6 by omega,show c.edges.length≤30 by omega])
 clear HD
 go_enter Tryz.func143,Tryz.ntmps143
 go_wp2
 go_loopw [20] (fun i wr=>∃ k:Nat,k≤c.edges.length∧i=.int .i64 k∧(c.edges.take k).all (edgeOk L)=true∧Below w.heap.size w wr) (fun i _=>c.edges.length-(intOf i).toNat)
 case atStart=>exact⟨0,Nat.zero_le _,rfl,by simp,Below.refl _ _⟩
 case round=>
  obtain⟨k,hk,rfl,hall,hbel⟩:=hrel
  have HA:=hide hall
  clear hall
  by_cases hlt:k<c.edges.length
  ·have hek:c.edges[k]?=some c.edges[k]:=List.getElem?_eq_getElem hlt
   obtain⟨b,off,hao,hbl,d1,d2⟩:=HE.out.at hbel hek
   have HS:=hide (all_take_succ c.edges (edgeOk L) k _ hek)
   have HF:=hide (all_false_of c.edges (edgeOk L) k _ hek)
   have hidx:∀ w',(Instr.indexAt 27 (.slice ea c.edges.length ec) (.int .i64 (k:Int))).run Tryz.prog w'=.ok (.pointer (some ⟨b,off+k*2,none⟩)) w':=by
    intro w'
    have hji:(k:Int)<(c.edges.length:Int):=by omega
    rw [hao]
    go_simp
   generalize c.edges[k]=e at *
   obtain⟨e1,e2⟩:=e
   simp only [xE,yE] at d1 d2
   have hbl2:b<wr.heap.size:=Nat.lt_of_lt_of_le hbl hbel.size
   have HOK:=hide (show edgeOk L (e1,e2)=(okL L e1 && okL L e2 && !(e1 == e2)) from rfl)
   clear hek hao
   go_wp2_with fail
   refine (HQ.out e1 _).mono ?_
   rintro e w1 ⟨rfl,rfl⟩
   have hbel1:=hbel.alloc hbel.size (.cells #[.int .i64 e1,.int .i64 e2] 169)
   cases g1:okL L e1
   ·have G1:=hide g1
    clear g1
    go_wp2
    go_ret
    exact⟨ret_bool (by rw [HR.out,HF.out (by rw [HOK.out,G1.out];rfl)]),hbel1⟩
   go_wp2_with fail
   refine (HQ.out e2 _).mono ?_
   rintro e w2 ⟨rfl,rfl⟩
   have G1:=hide g1
   clear g1
   cases g2:okL L e2
   ·have G2:=hide g2
    clear g2
    go_wp2
    go_ret
    exact⟨ret_bool (by rw [HR.out,HF.out (by rw [HOK.out,G2.out];simp)]),hbel1⟩
   have G2:=hide g2
   clear g2
   by_cases he:e1=e2
   ·have heb:(e1 == e2)=true:=by simpa using he
    have EB:=hide heb
    clear he
    go_wp2
    go_ret
    exact⟨ret_bool (by rw [HR.out,HF.out (by rw [HOK.out,EB.out];simp)]),hbel1⟩
   ·have heb:(e1 == e2)=false:=by simpa using he
    have EB:=hide heb
    clear he
    go_wp2
    go_roundw
    case rel=>exact⟨k+1,by omega,by go_num,by rw [HS.out,HA.out,HOK.out,G1.out,G2.out,EB.out];rfl,hbel1⟩
    case measure=>simp [intOf];omega
  ·have hke:k=c.edges.length:=by omega
   have HT:=hide (show c.edges.all (edgeOk L)=true by have:=HA.out;rwa [hke,List.take_length] at this)
   go_wp2
   go_ret
   exact⟨ret_bool (by rw [HR.out,HT.out]),hbel⟩
theorem results_cell_tmp {P:Program} {fn:Func} {p u:Tmp} {ty:TypeId} (h:fn.results=#[.cell p ty,.tmp u]) (tmps:Array Value) (w:World) (g:Nat) (t:TypeId) (cs:Array Value) (fr:Nat × Nat) (d:TypeDesc)
  (hp:tmps.getD p undef=.pointer (some ⟨g,0,none⟩)) (hg:w.heap[g]?=some (.cells cs t fr))
  (hu:P.underlying ty=some d) (hd:(match d with|.struct _|.array _ _=>true|_=>false)=true) (hi:(P.info? ty).map (·.size)=some cs.size) :
  (results fn tmps).run P w=.ok (.tuple #[.agg cs,tmps.getD u undef]) w:=by
 have hp':tmps[p]?.getD undef=.pointer (some ⟨g,0,none⟩):=by simpa using hp
 simp [results,h,hp',asAddr,run_loadVar_row w g t ty cs fr d hg hu hd hi]
structure NewIs (c:Cfg) (code L:Int) (f:Nat→Nat→Bool):Prop where
 one:labelsB c=false→code=1
 two:labelsB c=true→circleO c.n (tabF c.edges c.n c.n)→code=2
 three:labelsB c=true→¬ circleO c.n (tabF c.edges c.n c.n)→¬ latO c.n (tabF c.edges c.n c.n)→code=3
 ok:labelsB c=true→¬ circleO c.n (tabF c.edges c.n c.n)→latO c.n (tabF c.edges c.n c.n)→code=0∧L=c.n∧f=tabF c.edges c.n c.n
theorem new_any (c:Cfg) (ea:Option Addr) (ec:Nat) (w:World) (k1:c.edges.length<2 ^ 57) (hat:SeqAt xE yE w ea c.edges) :
  Calls Tryz.prog 98 #[.int .i64 c.labels,.slice ea c.edges.length ec] w fun e w'=>∃ code L f,e=.returned (.tuple #[.agg (ordC L f),.int .i64 code])∧NewIs c code L f∧Below w.heap.size w w':=by
 have HE:=hide hat
 have HK:=hide k1
 have HL:=hide (fun h=>@labels_of c h)
 have HQ:=hide (fun (w':World) (h:SeqAt xE yE w' ea c.edges)=>areLabels_any c ea ec w' k1 h)
 have HN:=hide (Go.heap_alloc_new w (.cells (ordC 0 noF) 105))
 have hb0:=below_box w (.cells (ordC 0 noF) 105)
 clear hat k1
 go_enter Tryz.func98,Tryz.ntmps98
 go_wp2_with (refine wpList_alloc_ord rfl rfl ?_)
 refine (HQ.out _ (HE.out.below hb0)).mono ?_
 rintro e w1 ⟨rfl,hb1⟩
 have hbel1:=hb0.trans (hb1.mono (by simp))
 have HR1:Hid (w1.heap[w.heap.size]?=some (.cells (ordC 0 noF) 105 (0,0))):=Below.row hb1 HN.out (by simp)
 have i1:rowIs w1 w.heap.size 37:=⟨_,_,HR1.out,ordC_size _ _⟩
 clear hb1 hb0 HN HQ
 cases hl:labelsB c
 ·have H1:=hide hl
  clear hl
  go_wp2_with (refine wpList_build_zero rfl rfl ?_)
  exact bodyPost_ret (results_cell_tmp Tryz.results98 _ _ w.heap.size _ (ordC 0 noF) (0,0) _ (by simp) (setRow_heap _ _ _ _ _ _ HR1.out) Tryz.underlying105 rfl (by rw [Tryz.sizeOrder,ordC_size])) rfl ⟨1,0,noF,rfl,⟨fun _=>rfl,fun h=>by simp [H1.out] at h,fun h=>by simp [H1.out] at h,fun h=>by simp [H1.out] at h⟩,below_setRow hbel1 (Nat.le_refl _) _⟩
 obtain⟨hL1,hL2,hL3,hL4,hL5,hL6,hL7⟩:=HL.out hl
 have HQ:=hide (fun w' h=>follow_any c.n c.edges ea ec w' hL6 hL3 hL4 h)
 rw [hL5] at HQ
 have HLn:=hide hL5
 have HLt:=hide hl
 clear hL1 hL2 hL3 hL4 hL5 hL7 hl HL
 go_wp2_with fail
 refine (HQ.out _ (HE.out.below hbel1)).mono ?_
 rintro e w2 ⟨rfl,hb2⟩
 rw [← HLn.out]
 generalize hT:tabF c.edges c.n c.n=T at *
 generalize hn:c.n=n at *
 have hbel2:=hbel1.trans (hb2.mono hbel1.size)
 have HR2:Hid (w2.heap[w.heap.size]?=some (.cells (ordC 0 noF) 105 (0,0))):=Below.row hb2 HR1.out (lt_of_row HR1.out)
 have HN:=hide (Go.heap_alloc_new w2 (.cells (ordC 0 noF) 105))
 have i2:rowIs (w2.alloc (.cells (ordC 0 noF) 105)) w2.heap.size 37:=⟨_,_,HN.out,ordC_size _ _⟩
 have HO3:Hid (OrdAt ((w2.alloc (.cells (ordC 0 noF) 105)).setRow w2.heap.size (ordC n T)) w2.heap.size n T):=setRow_heap _ _ _ (ordC n T) _ _ HN.out
 have hlt2:=lt_of_row HR2.out
 have HR3:Hid (((w2.alloc (.cells (ordC 0 noF) 105)).setRow w2.heap.size (ordC n T)).heap[w.heap.size]?=some (.cells (ordC 0 noF) 105 (0,0))):=(setRow_other _ _ _ _ (Nat.ne_of_lt hlt2)).trans (row_alloc' HR2.out)
 have i3:=HO3.out.is
 have a3:=HO3.out.at
 have hbel3:Below w.heap.size w ((w2.alloc (.cells (ordC 0 noF) 105)).setRow w2.heap.size (ordC n T)):=below_setRow (hbel2.alloc hbel2.size _) hbel2.size _
 clear hb2 i1 HQ
 go_wp2_with (refine wpList_alloc_ord rfl rfl ?_)
 refine (hasCircle_any n T _ hL6).mono ?_
 rintro e w4 ⟨⟨r,rfl,hr⟩,hb4⟩
 have hbel4:=hbel3.trans (hb4.mono hbel3.size)
 have HR4:Hid (w4.heap[w.heap.size]?=some (.cells (ordC 0 noF) 105 (0,0))):=Below.row hb4 HR3.out (lt_of_row HR3.out)
 have HO4:=hide (HO3.out.below hb4 HO3.out.lt)
 have i4:rowIs w4 w.heap.size 37:=⟨_,_,HR4.out,ordC_size _ _⟩
 have j4:=HO4.out.is
 have a4:=HO4.out.at
 have HC:=hide hr
 clear hb4 i3 a3 i2 hr HN HO3 HR3 HR2 HR1 hbel3 hbel2 hbel1
 cases r
 ·go_wp2_with fail
  refine (isLattice_any n T _ hL6).mono ?_
  rintro e w5 ⟨⟨r2,rfl,hr2⟩,hb5⟩
  have hbel5:=hbel4.trans (hb5.mono hbel4.size)
  have HR5:Hid (w5.heap[w.heap.size]?=some (.cells (ordC 0 noF) 105 (0,0))):=Below.row hb5 HR4.out (lt_of_row HR4.out)
  have HO5:=hide (HO4.out.below hb5 HO4.out.lt)
  have i5:rowIs w5 w.heap.size 37:=⟨_,_,HR5.out,ordC_size _ _⟩
  have j5:=HO5.out.is
  have a5:=HO5.out.at
  have HD:=hide hr2
  clear hb5 i4 j4 a4 hr2
  cases r2
  ·go_wp2_with (refine wpList_build_zero rfl rfl ?_)
   exact bodyPost_ret (results_cell_tmp Tryz.results98 _ _ w.heap.size _ (ordC 0 noF) (0,0) _ (by simp) (setRow_heap _ _ _ _ _ _ HR5.out) Tryz.underlying105 rfl (by rw [Tryz.sizeOrder,ordC_size])) rfl ⟨3,0,noF,rfl,⟨fun h=>by simp [HLt.out] at h,fun _ h=>by subst hn;rw [hT] at h;have:=HC.out.2 h;simp at this,fun _ _ _=>rfl,fun _ _ h=>by subst hn;rw [hT] at h;have:=HD.out.2 h;simp at this⟩,below_setRow hbel5 (Nat.le_refl _) _⟩
  ·go_wp2
   exact bodyPost_ret (results_cell_tmp Tryz.results98 _ _ w.heap.size _ (ordC n T) (0,0) _ (by simp) (setRow_heap _ _ _ _ _ _ HR5.out) Tryz.underlying105 rfl (by rw [Tryz.sizeOrder,ordC_size])) rfl ⟨0,n,T,rfl,⟨fun h=>by simp [HLt.out] at h,fun _ h=>by subst hn;rw [hT] at h;have:=HC.out.2 h;simp at this,fun _ _ h=>by subst hn;rw [hT] at h;exact absurd (HD.out.1 (by simp)) h,fun _ _ _=>by subst hn;exact⟨rfl,rfl,hT.symm⟩⟩,below_setRow hbel5 (Nat.le_refl _) _⟩
 ·go_wp2_with (refine wpList_build_zero rfl rfl ?_)
  exact bodyPost_ret (results_cell_tmp Tryz.results98 _ _ w.heap.size _ (ordC 0 noF) (0,0) _ (by simp) (setRow_heap _ _ _ _ _ _ HR4.out) Tryz.underlying105 rfl (by rw [Tryz.sizeOrder,ordC_size])) rfl ⟨2,0,noF,rfl,⟨fun h=>by simp [HLt.out] at h,fun _ _=>rfl,fun _ h=>by subst hn;rw [hT] at h;exact absurd (HC.out.1 (by simp)) h,fun _ h=>by subst hn;rw [hT] at h;exact absurd (HC.out.1 (by simp)) h⟩,below_setRow hbel4 (Nat.le_refl _) _⟩
end Go.Proofs.YtgigkiocdiffjaaGreat
namespace Go.Proofs.YtgigkiocdiffjaaGreat
open Go.RowKit Veil
def noneOf (R:List (ByteArray × Int)) (t:ByteArray):Bool:=R.all fun q=>!sameS q.1 t
theorem noneOf_succ (R:List (ByteArray × Int)) (t:ByteArray) (k:Nat) (p:ByteArray × Int) (h:R[k]?=some p):noneOf (R.take (k+1)) t=(noneOf (R.take k) t && !sameS p.1 t):=all_take_succ R _ k p h
theorem noneOf_false (R:List (ByteArray × Int)) (t:ByteArray) (k:Nat) (p:ByteArray × Int) (h:R[k]?=some p) (hf:sameS p.1 t=true):noneOf R t=false:=all_false_of R _ k p h (by simp [hf])
theorem isPattern_any (R:List (ByteArray × Int)) (ra:Option Addr) (rc:Nat) (t:ByteArray) (w:World) (k1:R.length<2 ^ 57) (hat:SeqAt xR yR w ra R) :
  Calls Tryz.prog 147 #[.slice ra R.length rc,.string t] w fun e w'=>e=.returned (.bool (!noneOf R t))∧Below w.heap.size w w':=by
 have HE:=hide hat
 clear hat
 go_enter Tryz.func147,Tryz.ntmps147
 go_wp2
 go_loopw [9] (fun i wr=>∃ k:Nat,k≤R.length∧i=.int .i64 k∧noneOf (R.take k) t=true∧Below w.heap.size w wr) (fun i _=>R.length-(intOf i).toNat)
 case atStart=>exact⟨0,Nat.zero_le _,rfl,by simp [noneOf],Below.refl _ _⟩
 case round=>
  obtain⟨k,hk,rfl,hall,hbel⟩:=hrel
  have HA:=hide hall
  clear hall
  by_cases hlt:k<R.length
  ·have hek:R[k]?=some R[k]:=List.getElem?_eq_getElem hlt
   obtain⟨b,off,hao,hbl,d1,d2⟩:=HE.out.at hbel hek
   have HS:=hide (noneOf_succ R t k _ hek)
   have HF:=hide (noneOf_false R t k _ hek)
   have hidx:∀ w',(Instr.indexAt 28 (.slice ra R.length rc) (.int .i64 (k:Int))).run Tryz.prog w'=.ok (.pointer (some ⟨b,off+k*2,none⟩)) w':=by
    intro w'
    have hji:(k:Int)<(R.length:Int):=by omega
    rw [hao]
    go_simp
   generalize R[k]=e at *
   obtain⟨e1,e2⟩:=e
   simp only [xR,yR] at d1 d2
   have HSS:=hide (show sameS e1 t=(e1.toList == t.toList) from rfl)
   have hbl2:b<wr.heap.size:=Nat.lt_of_lt_of_le hbl hbel.size
   have hbel1:=hbel.alloc hbel.size (.cells #[.string e1,.int .i64 e2] 163)
   clear hek hao
   cases g3:(e1.toList == t.toList)
   ·have G3:=hide g3
    go_wp2
    go_roundw
    case rel=>exact⟨k+1,by omega,by go_num,by rw [HS.out,HA.out,HSS.out,G3.out];rfl,hbel1⟩
    case measure=>simp [intOf];omega
   ·have G3:=hide g3
    go_wp2
    go_ret
    exact⟨ret_bool (by rw [HF.out (by rw [HSS.out,G3.out])];rfl),hbel1⟩
  ·have hke:k=R.length:=by omega
   have HT:=hide (show noneOf R t=true by have:=HA.out;rwa [hke,List.take_length] at this)
   go_wp2
   go_ret
   exact⟨ret_bool (by rw [HT.out];rfl),hbel⟩
def grantO (n:Nat) (f:Nat→Nat→Bool) (g:Int × Int):Bool:=!(g.2 == g.1) && leO n f g.2 g.1
def grantsO (n:Nat) (f:Nat→Nat→Bool) (G:List (Int × Int)):Bool:=decide (G.length≤30) && G.all (grantO n f)
theorem areGrants_any (n:Nat) (f:Nat→Nat→Bool) (G:List (Int × Int)) (ga:Option Addr) (gc:Nat) (w:World) (hn:n≤6) (k1:G.length<2 ^ 57) (hat:SeqAt xE yE w ga G) :
  Calls Tryz.prog 100 #[.agg (ordC n f),.slice ga G.length gc] w fun e w'=>e=.returned (.bool (grantsO n f G))∧Below w.heap.size w w':=by
 have HE:=hide hat
 have HD:=hide (show grantsO n f G=(decide (G.length≤30) && G.all (grantO n f)) from rfl)
 have hbox:=below_box w (.cells (ordC n f) 105)
 have HO:=hide (ord_new w n f)
 clear hat
 by_cases h3:30<G.length
 ·have h3':(30:Int)<(G.length:Int):=by omega
  go_enter Tryz.func100,Tryz.ntmps100
  go_wp2
  go_ret
  exact⟨ret_bool (by rw [HD.out];simp;omega),hbox⟩
 have HR:=hide (show grantsO n f G=G.all (grantO n f) by rw [HD.out];simp [show G.length≤30 by omega])
 clear HD
 go_enter Tryz.func100,Tryz.ntmps100
 go_wp2
 go_loopw [12] (fun i wr=>∃ k:Nat,k≤G.length∧i=.int .i64 k∧(G.take k).all (grantO n f)=true∧OrdAt wr w.heap.size n f∧Below w.heap.size w wr) (fun i _=>G.length-(intOf i).toNat)
 case atStart=>exact⟨0,Nat.zero_le _,rfl,by simp,HO.out,hbox⟩
 case round=>
  clear HO hbox
  obtain⟨k,hk,rfl,hall,hO,hbel⟩:=hrel
  have HA:=hide hall
  have HO:=hide hO
  clear hall hO
  by_cases hlt:k<G.length
  ·have hek:G[k]?=some G[k]:=List.getElem?_eq_getElem hlt
   obtain⟨b,off,hao,hbl,d1,d2⟩:=HE.out.at hbel hek
   have HS:=hide (all_take_succ G (grantO n f) k _ hek)
   have HF:=hide (all_false_of G (grantO n f) k _ hek)
   have hidx:∀ w',(Instr.indexAt 29 (.slice ga G.length gc) (.int .i64 (k:Int))).run Tryz.prog w'=.ok (.pointer (some ⟨b,off+k*2,none⟩)) w':=by
    intro w'
    have hji:(k:Int)<(G.length:Int):=by omega
    rw [hao]
    go_simp
   generalize G[k]=e at *
   obtain⟨e1,e2⟩:=e
   simp only [xE,yE] at d1 d2
   have HOK:=hide (show grantO n f (e1,e2)=(!(e2 == e1) && leO n f e2 e1) from rfl)
   have hbl2:b<wr.heap.size:=Nat.lt_of_lt_of_le hbl hbel.size
   have hbel1:=hbel.alloc hbel.size (.cells #[.int .i64 e1,.int .i64 e2] 166)
   have hlt0:=HO.out.lt
   have HO1:Hid (OrdAt (wr.alloc (.cells #[.int .i64 e1,.int .i64 e2] 166)) w.heap.size n f):=row_alloc' HO.out
   have i1:=HO1.out.is
   have a1:=HO1.out.at
   clear hek hao
   cases heb:(e2 == e1)
   ·have EB:=hide heb
    go_wp2_with fail
    refine (oleq_any n f e2 e1 _ hn).mono ?_
    rintro e w1 ⟨rfl,hb1⟩
    have hbel2:=hbel1.trans (hb1.mono hbel1.size)
    have HO2:=hide (HO1.out.below hb1 HO1.out.lt)
    clear hb1 i1 a1 heb
    cases g1:leO n f e2 e1
    ·have G1:=hide g1
     clear g1
     go_wp2
     go_ret
     exact⟨ret_bool (by rw [HR.out,HF.out (by rw [HOK.out,G1.out];simp)]),hbel2⟩
    ·have G1:=hide g1
     clear g1
     go_wp2
     go_roundw
     case rel=>exact⟨k+1,by omega,by go_num,by rw [HS.out,HA.out,HOK.out,G1.out,EB.out];rfl,HO2.out,hbel2⟩
     case measure=>simp [intOf];omega
   ·have EB:=hide heb
    go_wp2
    go_ret
    exact⟨ret_bool (by rw [HR.out,HF.out (by rw [HOK.out,EB.out];rfl)]),hbel1⟩
  ·have hke:k=G.length:=by omega
   have HT:=hide (show G.all (grantO n f)=true by have:=HA.out;rwa [hke,List.take_length] at this)
   go_wp2
   go_ret
   exact⟨ret_bool (by rw [HR.out,HT.out]),hbel⟩
end Go.Proofs.YtgigkiocdiffjaaGreat
