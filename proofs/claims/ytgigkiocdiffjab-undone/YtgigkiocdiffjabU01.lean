import Derived.Test.YtgigkiocdiffjabRows
import Derived.WalkKit
import Derived.ProofKit
import Derived.OpenShut
import Derived.ShutString
import Derived.Laws.Rows
import Derived.Laws.CopyOwn
import Derived.Deep.RegionWith
import Derived.Deep.QuietTactic
import Derived.BigQuiet
import Derived.Deep.OwnRows
import Derived.Laws.CopyRow
import Derived.Laws.IdiomCopy
set_option maxRecDepth 100000
set_option maxHeartbeats 16000000
namespace Veil
def mayB (c:Int):Bool:=decide (97≤c∧c≤122) || decide (48≤c∧c≤57) || c == 63 || c == 42
def validL (p:List UInt8):Bool:=decide (1≤p.length) && decide (p.length≤12) && p.all (fun b=>mayB b.toNat)
def starB (f:List UInt8→Bool):List UInt8→Bool
 | []=>f []
 | b :: t=>f (b :: t) || starB f t
def cutB:List UInt8→List UInt8→Bool
 | [],t=>t.isEmpty
 | c :: p,t=>if c=42 then starB (cutB p) t else match t with
  | []=>false
  | b :: t'=>(c == 63 || c == b) && cutB p t'
theorem starB_iff (f:List UInt8→Bool) (t:List UInt8):starB f t=true ↔ ∃ t1 t2,t=t1++t2∧f t2=true:=by
 induction t with
 | nil=>
  simp only [starB]
  constructor
  ·intro h;exact⟨[],[],rfl,h⟩
  ·rintro ⟨t1,t2,h,h2⟩
   have:=List.append_eq_nil_iff.1 h.symm
   rw [this.2] at h2;exact h2
 | cons b t ih=>
  simp only [starB,Bool.or_eq_true,ih]
  constructor
  ·rintro (h|⟨t1,t2,rfl,h⟩)
   ·exact⟨[],b :: t,rfl,h⟩
   ·exact⟨b :: t1,t2,rfl,h⟩
  ·rintro ⟨t1,t2,h,h2⟩
   cases t1 with
   | nil=>left;rw [h];exact h2
   | cons x t1=>
    right
    simp only [List.cons_append,List.cons.injEq] at h
    exact⟨t1,t2,h.2,h2⟩
theorem cutB_one (c:UInt8) (t:List UInt8):cutB [c] t=true ↔ c=42∨∃ b,t=[b]∧(c=63∨c=b):=by
 by_cases h:c=42
 ·simp only [cutB,h,if_true,true_or,iff_true,starB_iff]
  exact⟨t,[],by simp,rfl⟩
 ·simp only [cutB,h,if_false,false_or]
  match t with
  | []=>simp
  | [b]=>simp
  | b :: b' :: t=>simp
theorem cutB_append (p q t:List UInt8):cutB (p++q) t=true ↔ ∃ t1 t2,t=t1++t2∧cutB p t1=true∧cutB q t2=true:=by
 induction p generalizing t with
 | nil=>
  simp only [List.nil_append,cutB,List.isEmpty_iff]
  constructor
  ·intro h;exact⟨[],t,rfl,rfl,h⟩
  ·rintro ⟨t1,t2,rfl,rfl,h⟩;exact h
 | cons c p ih=>
  by_cases h:c=42
  ·simp only [List.cons_append,cutB,h,if_true,starB_iff]
   constructor
   ·rintro ⟨a,b,rfl,hb⟩
    obtain⟨t1,t2,rfl,h1,h2⟩:=(ih b).1 hb
    exact⟨a++t1,t2,by simp,⟨a,t1,rfl,h1⟩,h2⟩
   ·rintro ⟨t1,t2,rfl,⟨a,b,rfl,hb⟩,h2⟩
    exact⟨a,b++t2,by simp,(ih _).2 ⟨b,t2,rfl,hb,h2⟩⟩
  ·simp only [List.cons_append,cutB,h,if_false]
   cases t with
   | nil=>
    simp only [Bool.false_eq_true,false_iff]
    rintro ⟨t1,t2,h1,h2,_⟩
    rw [(List.append_eq_nil_iff.1 h1.symm).1] at h2
    simp at h2
   | cons b t=>
    simp only [Bool.and_eq_true,ih]
    constructor
    ·rintro ⟨hc,t1,t2,rfl,h1,h2⟩
     exact⟨b :: t1,t2,rfl,by simpa using ⟨by simpa using hc,h1⟩,h2⟩
    ·rintro ⟨t1,t2,h1,h2,h3⟩
     cases t1 with
     | nil=>simp at h2
     | cons x t1=>
      simp only [List.cons_append,List.cons.injEq] at h1
      obtain⟨rfl,rfl⟩:=h1
      simp only [Bool.and_eq_true] at h2
      exact⟨h2.1,t1,t2,rfl,h2.2,h3⟩
theorem cutB_snoc_star (p t:List UInt8) (b:UInt8):cutB (p++[42]) (t++[b])=(cutB p (t++[b]) || cutB (p++[42]) t):=by
 rw [Bool.eq_iff_iff,Bool.or_eq_true,cutB_append,cutB_append]
 constructor
 ·rintro ⟨t1,t2,h,h1,_⟩
  rcases List.eq_nil_or_concat t2 with rfl|⟨t2',x,rfl⟩
  ·left;rw [h];simpa using h1
  ·right
   have h':t++[b]=(t1++t2')++[x]:=by simpa using h
   have:=List.append_inj' h' rfl
   exact⟨t1,t2',this.1,h1,(cutB_one _ _).2 (Or.inl rfl)⟩
 ·rintro (h|⟨t1,t2,rfl,h1,_⟩)
  ·exact⟨t++[b],[],by simp,h,(cutB_one _ _).2 (Or.inl rfl)⟩
  ·exact⟨t1,t2++[b],by simp,h1,(cutB_one _ _).2 (Or.inl rfl)⟩
theorem cutB_snoc_one (p t:List UInt8) (c b:UInt8) (h:c≠42):cutB (p++[c]) (t++[b])=((c == 63 || c == b) && cutB p t):=by
 rw [Bool.eq_iff_iff,cutB_append,Bool.and_eq_true]
 constructor
 ·rintro ⟨t1,t2,h',h1,h2⟩
  rcases (cutB_one _ _).1 h2 with h2|⟨x,rfl,hx⟩
  ·exact absurd h2 h
  ·have:=List.append_inj' h' rfl
   obtain⟨rfl,h3⟩:=this
   simp only [List.cons.injEq,and_true] at h3
   subst h3
   exact⟨by simpa using hx,h1⟩
 ·rintro ⟨hc,h1⟩
  exact⟨t,[b],rfl,h1,(cutB_one _ _).2 (Or.inr ⟨b,rfl,by simpa using hc⟩)⟩
theorem cutB_snoc_nil (p:List UInt8) (c:UInt8):cutB (p++[c]) []=(cutB p [] && c == 42):=by
 rw [Bool.eq_iff_iff,cutB_append,Bool.and_eq_true]
 constructor
 ·rintro ⟨t1,t2,h,h1,h2⟩
  obtain⟨rfl,rfl⟩:=List.append_eq_nil_iff.1 h.symm
  rcases (cutB_one _ _).1 h2 with h2|⟨x,h3,_⟩
  ·exact⟨h1,by simpa using h2⟩
  ·simp at h3
 ·rintro ⟨h1,h2⟩
  exact⟨[],[],rfl,h1,(cutB_one _ _).2 (Or.inl (by simpa using h2))⟩
def vecTo (p t:List UInt8) (k:Nat):List Bool:=(List.range 13).map fun n=>decide (n≤k) && cutB (p.take n) t
theorem vecTo_length (p t:List UInt8) (k:Nat):(vecTo p t k).length=13:=by simp [vecTo]
theorem vecTo_get (p t:List UInt8) (k n:Nat) (h:n<13):(vecTo p t k)[n]?=some (decide (n≤k) && cutB (p.take n) t):=by
 simp [vecTo,h]
theorem vecTo_set (p t:List UInt8) (k:Nat) (h:k<12):(vecTo p t k).set (k+1) (cutB (p.take (k+1)) t)=vecTo p t (k+1):=by
 apply List.ext_getElem?
 intro n
 rw [List.getElem?_set]
 by_cases hn:n<13
 ·rw [vecTo_get _ _ _ _ hn,vecTo_get _ _ _ _ hn,vecTo_length]
  by_cases e:k+1=n
  ·subst e;simp [h]
  ·rw [if_neg e]
   have:decide (n≤k)=decide (n≤k+1):=by rw [decide_eq_decide];omega
   rw [this]
 ·have h1:(vecTo p t k).length≤n:=by rw [vecTo_length];omega
  have h2:(vecTo p t (k+1)).length≤n:=by rw [vecTo_length];omega
  rw [List.getElem?_eq_none h1,List.getElem?_eq_none h2,if_neg (by omega)]
theorem take_snocL (p:List UInt8) (k:Nat) (h:k<p.length):p.take (k+1)=p.take k++[p[k]]:=List.take_succ_eq_append_getElem h
end Veil
namespace Go.Proofs.Ytgigkiocdiffjab
open Go.RowKit Veil
theorem hide {p:Prop} (h:p):Hid p:=h
theorem ret_bool {a b:Bool} (h:a=b):Ending.returned (.bool a)=.returned (.bool b):=by rw [h]
theorem may_any (c:Int) (w:World) :
  Calls Try.prog 104 #[.int .u8 c] w fun e w'=>e=.returned (.bool (mayB c))∧w=w':=by
 go_enter Try.func104,Try.ntmps104
 go_wp2
 all_goals (go_ret;refine⟨ret_bool ?_,rfl⟩;rw [Bool.eq_iff_iff];simp [mayB];try omega)
def bytes (s:ByteArray):List UInt8:=s.data.toList
theorem bytes_length (s:ByteArray):(bytes s).length=s.size:=by simp [bytes]
theorem bytes_get (s:ByteArray) (k:Nat) (h:k<s.size):(bytes s)[k]'(by rw [bytes_length];exact h)=s[k]:=rfl
def validTo (s:ByteArray) (k:Nat):Bool:=((bytes s).take k).all (fun b=>mayB b.toNat)
def validB (s:ByteArray):Bool:=validL (bytes s)
theorem take_snoc (s:ByteArray) (k:Nat) (h:k<s.size):(bytes s).take (k+1)=(bytes s).take k++[s[k]]:=by
 rw [take_snocL _ k (by rw [bytes_length];exact h)];rfl
theorem validTo_succ (s:ByteArray) (k:Nat) (h:k<s.size):validTo s (k+1)=(validTo s k && mayB s[k].toNat):=by
 unfold validTo;rw [take_snoc s k h];simp
theorem validTo_false (s:ByteArray) (k:Nat) (h:k<s.size) (h2:mayB s[k].toNat=false):validB s=false:=by
 unfold validB validL
 have:(bytes s).all (fun b=>mayB b.toNat)=false:=by
  rw [List.all_eq_false]
  refine⟨s[k],?_,by simp [h2]⟩
  rw [← bytes_get s k h]
  exact List.getElem_mem _
 simp [this]
theorem validTo_all (s:ByteArray) (h:1≤s.size) (h':s.size≤12) (h2:validTo s s.size=true):validB s=true:=by
 unfold validB validL;unfold validTo at h2
 rw [List.take_of_length_le (by rw [bytes_length];exact Nat.le_refl _)] at h2
 simp [bytes_length,h,h',h2]
theorem validB_small (s:ByteArray) (h:s.size<1):validB s=false:=by
 unfold validB validL;simp [bytes_length];omega
theorem validB_big (s:ByteArray) (h:12<s.size):validB s=false:=by
 unfold validB validL;simp [bytes_length];omega
theorem validB_size {s:ByteArray} (h:validB s=true):1≤s.size∧s.size≤12:=by
 unfold validB validL at h;simp [bytes_length] at h;omega
theorem valid_any (s:ByteArray) (w:World) (hs:s.size≤maxLen) :
  Calls Try.prog 95 #[.string s] w fun e w'=>e=.returned (.bool (validB s))∧w=w':=by
 unfold maxLen at hs
 by_cases h1:s.size<1
 ·go_enter Try.func95,Try.ntmps95
  go_wp2
  go_ret
  exact⟨ret_bool (validB_small s h1).symm,rfl⟩
 by_cases h2:12<s.size
 ·go_enter Try.func95,Try.ntmps95
  go_wp2
  go_ret
  exact⟨ret_bool (validB_big s h2).symm,rfl⟩
 go_enter Try.func95,Try.ntmps95
 go_wp2
 go_loop [3] (fun i=>∃ k:Nat,k≤s.size∧i=.int .i64 k∧validTo s k=true) (fun i=>s.size-(intOf i).toNat)
 case atStart=>exact⟨0,Nat.zero_le _,rfl,by simp [validTo]⟩
 case round=>
  obtain⟨k,hk,rfl,hv⟩:=hrel
  have HV:Hid (validTo s k=true):=hv
  clear hv
  by_cases hlt:k<s.size
  ·cases hm:mayB s[k].toNat
   ·go_wp2_with (go_at_call 104;refine (may_any _ _).mono ?_;rintro e w' ⟨rfl,rfl⟩)
    go_ret
    exact⟨ret_bool (validTo_false s k hlt hm).symm,rfl⟩
   ·go_wp2_with (go_at_call 104;refine (may_any _ _).mono ?_;rintro e w' ⟨rfl,rfl⟩)
    go_round
    case rel=>exact⟨k+1,by omega,by go_num,by rw [validTo_succ s k hlt,HV.out,hm];rfl⟩
    case measure=>simp [intOf];omega
  ·go_wp2
   go_ret
   have:k=s.size:=by omega
   subst this
   exact⟨ret_bool (validTo_all s (by omega) (by omega) HV.out).symm,rfl⟩
end Go.Proofs.Ytgigkiocdiffjab
namespace Go.Proofs.Ytgigkiocdiffjab
open Go.RowKit Veil
def bools (l:List Bool):Array Value:=(l.map Value.bool).toArray
theorem bools_size (l:List Bool):(bools l).size=l.length:=by simp [bools]
theorem bools_get (l:List Bool) (n:Nat):(bools l)[n]?=(l[n]?).map Value.bool:=by simp [bools]
theorem bools_set (l:List Bool) (n:Nat) (b:Bool):(bools l).setIfInBounds n (.bool b)=bools (l.set n b):=by simp [bools,List.map_set]
theorem bools_one (l:List Bool):(bools l).all (·.oneCell')=true:=by
 simp [bools,Value.oneCell']
theorem Try.sizeCuts:(Try.prog.info? 179).map (·.size)=some 13:=by kernel_rfl
theorem sizeCuts_of {l:List Bool} (h:l.length=13):(Try.prog.info? 179).map (·.size)=some (bools l).size:=by rw [Try.sizeCuts,bools_size,h]
theorem vec_cell {w:World} {g k j:Nat} {p t:List UInt8} {ty:TypeId} (h:w.heap[g]?=some (.cells (bools (vecTo p t k)) ty (0,0))) (hj:j≤k) (hj':j<13) :
  w.cell? ⟨g,j,none⟩=some (.bool (cutB (p.take j) t)):=by
 rw [cell_of_row _ _ _ _ _ _ h,bools_get,vecTo_get _ _ _ _ hj'];simp [hj]
theorem vec_cell_past {w:World} {g k j:Nat} {p t:List UInt8} {ty:TypeId} (h:w.heap[g]?=some (.cells (bools (vecTo p t k)) ty (0,0))) (hj:k<j) (hj':j<13) :
  w.cell? ⟨g,j,none⟩=some (.bool false):=by
 rw [cell_of_row _ _ _ _ _ _ h,bools_get,vecTo_get _ _ _ _ hj'];simp [show ¬ j≤k by omega]
theorem vec_step {w:World} {g k:Nat} {p t:List UInt8} {ty:TypeId} {b:Bool} (h:w.heap[g]?=some (.cells (bools (vecTo p t k)) ty (0,0))) (hk:k<12) (hb:b=cutB (p.take (k+1)) t) :
  (w.setCell ⟨g,k+1,none⟩ (.bool b)).heap[g]?=some (.cells (bools (vecTo p t (k+1))) ty (0,0)):=by
 rw [heap_setCell_same _ _ _ _ _ _ h,bools_set,hb,vecTo_set _ _ _ hk]
theorem vec_skip {w:World} {g k:Nat} {p t:List UInt8} {ty:TypeId} (h:w.heap[g]?=some (.cells (bools (vecTo p t k)) ty (0,0))) (hk:k<12) (hb:cutB (p.take (k+1)) t=false) :
  w.heap[g]?=some (.cells (bools (vecTo p t (k+1))) ty (0,0)):=by
 rw [h,← vecTo_set _ _ _ hk,hb]
 have:(vecTo p t k).set (k+1) false=vecTo p t k:=by
  apply List.ext_getElem?
  intro n
  rw [List.getElem?_set]
  by_cases e:k+1=n
  ·subst e;rw [if_pos rfl,if_pos (by rw [vecTo_length];omega),vecTo_get _ _ _ _ (by omega)];simp [show ¬ k+1≤k by omega]
  ·rw [if_neg e]
 rw [this]
theorem eq42 (b:UInt8):(((b.toNat:Int) == 42):Bool)=(b == 42):=by
 rw [Bool.eq_iff_iff];simp [← UInt8.toNat_inj];omega
theorem eq63 (b:UInt8):(((b.toNat:Int) == 63):Bool)=(b == 63):=by
 rw [Bool.eq_iff_iff];simp [← UInt8.toNat_inj];omega
theorem eqB (a b:UInt8):(((a.toNat:Int) == (b.toNat:Int)):Bool)=(a == b):=by
 rw [Bool.eq_iff_iff];simp [← UInt8.toNat_inj];omega
theorem nothing_step (s:ByteArray) (k:Nat) (h:k<s.size):cutB ((bytes s).take (k+1)) []=(cutB ((bytes s).take k) [] && (s[k] == 42)):=by
 rw [take_snoc s k h,cutB_snoc_nil]
theorem nothing_any (s:ByteArray) (w:World) (h1:1≤s.size) (h2:s.size≤12) :
  Calls Try.prog 109 #[.string s] w fun e w'=>e=.returned (.agg (bools (vecTo (bytes s) [] s.size)))∧Below w.heap.size w w':=by
 go_enter Try.func109,Try.ntmps109
 go_wp2
 go_loopw [4] (fun i wr=>∃ k:Nat,k≤s.size∧i=.int .i64 k∧wr.heap[w.heap.size+1]?=some (.cells (bools (vecTo (bytes s) [] k)) 179 (0,0)) ∧
   wr.heap[w.heap.size]?=some (.cells (bools (List.replicate 13 false)) 179 (0,0))∧Below w.heap.size w wr) (fun i _=>s.size-(intOf i).toNat)
 case atStart=>exact⟨0,Nat.zero_le _,rfl,heap_alloc2_new _ _ _,heap_alloc2_old _ _ _,((Below.refl _ _).alloc (Nat.le_refl _) _).alloc (by simp) _⟩
 case round=>
  obtain⟨k,hk,rfl,hrow,hres,hbel⟩:=hrel
  have HR:Hid _:=hrow
  have HS:Hid _:=hres
  by_cases hlt:k<s.size
  ·have hc0:=vec_cell hrow (Nat.le_refl k) (by omega)
   have hc1:=vec_cell_past hrow (Nat.lt_succ_self k) (by omega)
   have hf1:wr.frozen? ⟨w.heap.size+1,k+1,none⟩=false:=frozen_of_row _ _ _ _ _ hrow
   have HN:Hid _:=nothing_step s k hlt
   clear hrow hres
   cases hc:cutB ((bytes s).take k) []
   all_goals
    go_wp2
    go_roundw
    case rel=>
     refine⟨k+1,by omega,by go_num,vec_step HR.out (by omega) ?_,?_,hbel.setCell (by simp) _⟩
     ·rw [HN.out,hc];simp [eq42]
     ·rw [heap_setCell_other _ _ _ _ (by simp)];exact HS.out
    case measure=>simp [intOf];omega
  ·have:k=s.size:=by omega
   subst this
   clear hrow hres
   go_wp2_with (first
    | (refine wpList_load_row rfl 179 _ rfl (w.heap.size+1) rfl 179 (bools (vecTo (bytes s) [] s.size)) (0,0) _ HR.out Try.underlying179 rfl (sizeCuts_of (vecTo_length _ _ _)) ?_)
    | (refine wpList_store_row rfl 179 _ _ rfl w.heap.size (bools (vecTo (bytes s) [] s.size)) rfl rfl 179 _ HS.out (sizeCuts_of (vecTo_length _ _ _)) (by simp [bools_size,vecTo_length]) (bools_one _) ?_))
   exact bodyPost_ret (results_cell_row Try.results109 _ _ w.heap.size 179 (bools (vecTo (bytes s) [] s.size)) (0,0) _ (by simp [Act.put]) (setRow_heap _ _ _ _ _ _ HS.out) Try.underlying179 rfl (sizeCuts_of (vecTo_length _ _ _))) rfl ⟨rfl,below_setRow hbel (Nat.le_refl _) _⟩
theorem vec_start (p t:List UInt8) (b:UInt8):bools (vecTo p (t++[b]) 0)=bools (List.replicate 13 false):=by
 have:vecTo p (t++[b]) 0=List.replicate 13 false:=by
  apply List.ext_getElem?
  intro n
  by_cases hn:n<13
  ·rw [vecTo_get _ _ _ _ hn,List.getElem?_replicate,if_pos hn]
   by_cases e:n=0
   ·subst e;simp [cutB]
   ·simp [e]
  ·rw [List.getElem?_eq_none (by rw [vecTo_length];omega),List.getElem?_eq_none (by simp;omega)]
 rw [this]
theorem read_star (s:ByteArray) (t:List UInt8) (b:UInt8) (k:Nat) (h:k<s.size) (h42:s[k]=42) :
  (cutB ((bytes s).take k) (t++[b]) || cutB ((bytes s).take (k+1)) t)=cutB ((bytes s).take (k+1)) (t++[b]):=by
 rw [take_snoc s k h,h42,cutB_snoc_star]
theorem read_one (s:ByteArray) (t:List UInt8) (b:UInt8) (k:Nat) (h:k<s.size) (h42:s[k]≠42) :
  ((s[k] == 63 || s[k] == b) && cutB ((bytes s).take k) t)=cutB ((bytes s).take (k+1)) (t++[b]):=by
 rw [take_snoc s k h,cutB_snoc_one _ _ _ _ h42]
theorem alloc3_0 (w:World) (A B C:Obj):(((w.alloc A).alloc B).alloc C).heap[w.heap.size]?=some A:=
 (heap_alloc_old ((w.alloc A).alloc B) C (by simp;omega)).trans (heap_alloc2_old w A B)
theorem alloc3_1 (w:World) (A B C:Obj):(((w.alloc A).alloc B).alloc C).heap[w.heap.size+1]?=some B:=
 (heap_alloc_old ((w.alloc A).alloc B) C (by simp)).trans (heap_alloc2_new w A B)
theorem alloc3_2 (w:World) (A B C:Obj):(((w.alloc A).alloc B).alloc C).heap[w.heap.size+2]?=some C:=by
 have h:=heap_alloc_new ((w.alloc A).alloc B) C
 simpa using h
theorem read_any (s:ByteArray) (t:List UInt8) (b:UInt8) (w:World) (h1:1≤s.size) (h2:s.size≤12) :
  Calls Try.prog 110 #[.agg (bools (vecTo (bytes s) t s.size)),.string s,.int .u8 b.toNat] w fun e w'=>
   e=.returned (.agg (bools (vecTo (bytes s) (t++[b]) s.size)))∧Below w.heap.size w w':=by
 go_enter Try.func110,Try.ntmps110
 go_wp2
 go_loopw [8] (fun i wr=>∃ k:Nat,k≤s.size∧i=.int .i64 k∧wr.heap[w.heap.size+2]?=some (.cells (bools (vecTo (bytes s) (t++[b]) k)) 179 (0,0)) ∧
   wr.heap[w.heap.size+1]?=some (.cells (bools (List.replicate 13 false)) 179 (0,0))∧wr.heap[w.heap.size]?=some (.cells (bools (vecTo (bytes s) t s.size)) 179 (0,0))∧Below w.heap.size w wr) (fun i _=>s.size-(intOf i).toNat)
 case atStart=>
  refine⟨0,Nat.zero_le _,rfl,?_,alloc3_1 _ _ _ _,alloc3_0 _ _ _ _,(((Below.refl _ _).alloc (Nat.le_refl _) _).alloc (by simp) _).alloc (by simp;omega) _⟩
  rw [vec_start];exact alloc3_2 _ _ _ _
 case round=>
  obtain⟨k,hk,rfl,hrow,hres,hold,hbel⟩:=hrel
  have HR:Hid _:=hrow
  have HS:Hid _:=hres
  have HO:Hid _:=hold
  by_cases hlt:k<s.size
  ·have hn0:=vec_cell hrow (Nat.le_refl k) (by omega)
   have hn1:=vec_cell_past hrow (Nat.lt_succ_self k) (by omega)
   have hc0:=vec_cell hold (Nat.le_of_lt hlt) (by omega)
   have hc1:=vec_cell hold (show k+1≤s.size by omega) (by omega)
   have hf1:wr.frozen? ⟨w.heap.size+2,k+1,none⟩=false:=frozen_of_row _ _ _ _ _ hrow
   by_cases h42:s[k]=42
   ·have hb42:(((s[k]).toNat:Int) == 42)=true:=by rw [eq42,h42];rfl
    have HN:Hid _:=read_star s t b k hlt h42
    clear hrow hres hold h42
    cases hc:cutB ((bytes s).take k) (t++[b])
    all_goals
     go_wp2
     go_roundw
     case rel=>
      refine⟨k+1,by omega,by go_num,vec_step HR.out (by omega) ?_,?_,?_,hbel.setCell (by dsimp only;omega) _⟩
      ·rw [← HN.out,hc];simp
      ·rw [heap_setCell_other _ _ _ _ (by dsimp only;omega)];exact HS.out
      ·rw [heap_setCell_other _ _ _ _ (by dsimp only;omega)];exact HO.out
     case measure=>simp [intOf];omega
   ·have hb42:(((s[k]).toNat:Int) == 42)=false:=by rw [eq42];simpa using h42
    have HN:Hid _:=read_one s t b k hlt h42
    clear hrow hres hold h42
    by_cases h63:s[k]=63
    ·have hb63:(((s[k]).toNat:Int) == 63)=true:=by rw [eq63,h63];rfl
     have H63:Hid _:=h63
     clear h63
     go_wp2
     go_roundw
     case rel=>
      refine⟨k+1,by omega,by go_num,vec_step HR.out (by omega) ?_,?_,?_,hbel.setCell (by dsimp only;omega) _⟩
      ·rw [← HN.out,H63.out];simp
      ·rw [heap_setCell_other _ _ _ _ (by dsimp only;omega)];exact HS.out
      ·rw [heap_setCell_other _ _ _ _ (by dsimp only;omega)];exact HO.out
     case measure=>simp [intOf];omega
    ·have hb63:(((s[k]).toNat:Int) == 63)=false:=by rw [eq63];simpa using h63
     have H63:Hid _:=h63
     clear h63
     by_cases hb:s[k]=b
     ·have hbb:(((s[k]).toNat:Int) == (b.toNat:Int))=true:=by rw [eqB];simpa using hb
      have HB:Hid _:=hb
      clear hb
      go_wp2
      go_roundw
      case rel=>
       refine⟨k+1,by omega,by go_num,vec_step HR.out (by omega) ?_,?_,?_,hbel.setCell (by dsimp only;omega) _⟩
       ·rw [← HN.out,HB.out];simp
       ·rw [heap_setCell_other _ _ _ _ (by dsimp only;omega)];exact HS.out
       ·rw [heap_setCell_other _ _ _ _ (by dsimp only;omega)];exact HO.out
      case measure=>simp [intOf];omega
     ·have hbb:(((s[k]).toNat:Int) == (b.toNat:Int))=false:=by rw [eqB];simpa using hb
      have HB:Hid _:=hb
      clear hb
      go_wp2
      go_roundw
      case rel=>
       refine⟨k+1,by omega,by go_num,vec_skip HR.out (by omega) ?_,HS.out,HO.out,hbel⟩
       rw [← HN.out,← eq63,← eqB,hb63,hbb];rfl
      case measure=>simp [intOf];omega
  ·have:k=s.size:=by omega
   subst this
   clear hrow hres hold
   go_wp2_with (first
    | (refine wpList_load_row rfl 179 _ rfl (w.heap.size+2) rfl 179 (bools (vecTo (bytes s) (t++[b]) s.size)) (0,0) _ HR.out Try.underlying179 rfl (sizeCuts_of (vecTo_length _ _ _)) ?_)
    | (refine wpList_store_row rfl 179 _ _ rfl (w.heap.size+1) (bools (vecTo (bytes s) (t++[b]) s.size)) rfl rfl 179 _ HS.out (sizeCuts_of (vecTo_length _ _ _)) (by simp [bools_size,vecTo_length]) (bools_one _) ?_))
   exact bodyPost_ret (results_cell_row Try.results110 _ _ (w.heap.size+1) 179 (bools (vecTo (bytes s) (t++[b]) s.size)) (0,0) _ (by simp [Act.put]) (setRow_heap _ _ _ _ _ _ HS.out) Try.underlying179 rfl (sizeCuts_of (vecTo_length _ _ _))) rfl ⟨rfl,below_setRow hbel (by omega) _⟩
end Go.Proofs.Ytgigkiocdiffjab
namespace Go.Proofs.Ytgigkiocdiffjab
open Go.RowKit
def rowAt (w:World) (g:Nat):Array Value:=match w.heap[g]? with
 | some (.cells cs _ _)=>cs
 | _=>#[]
def rowIs (w:World) (g n:Nat):Prop:=∃ cs t,w.heap[g]?=some (.cells cs t (0,0))∧cs.size=n
def okRow (cs:Array Value) (n:Nat):Prop:=cs.size=n∧cs.all (·.oneCell')=true
def ptrIs (w:World) (v:Value) (n:Nat):Prop:=∃ g,v=.pointer (some ⟨g,0,none⟩)∧rowIs w g n
def blkOf:Value→Nat
 | .pointer (some a)=>a.block
 | _=>0
def aggOf:Value→Array Value
 | .agg cs=>cs
 | _=>#[]
def isAggV (v:Value) (n:Nat):Prop:=∃ cs,v=.agg cs∧okRow cs n
theorem rowIs_mk {w:World} {g n:Nat} {cs:Array Value} {t:TypeId} (h:w.heap[g]?=some (.cells cs t (0,0))) (hn:cs.size=n):rowIs w g n:=⟨cs,t,h,hn⟩
theorem rowAt_mk {w:World} {g:Nat} {cs:Array Value} {t:TypeId} {fr:Nat × Nat} (h:w.heap[g]?=some (.cells cs t fr)):rowAt w g=cs:=by simp [rowAt,h]
@[go_sem] theorem rowIs_drew (w:World) (g n:Nat):rowIs w.drew g n=rowIs w g n:=rfl
@[go_sem] theorem rowAt_drew (w:World) (g:Nat):rowAt w.drew g=rowAt w g:=rfl
@[go_sem] theorem ptrIs_ptr (w:World) (g n:Nat):ptrIs w (.pointer (some ⟨g,0,none⟩)) n=rowIs w g n:=by
 simp [ptrIs]
@[go_sem] theorem blkOf_ptr (g:Nat):blkOf (.pointer (some ⟨g,0,none⟩))=g:=rfl
@[go_sem] theorem aggOf_agg (cs:Array Value):aggOf (.agg cs)=cs:=rfl
@[go_sem] theorem isAggV_agg (cs:Array Value) (n:Nat):isAggV (.agg cs) n=okRow cs n:=by simp [isAggV]
@[go_sem] def loadTy (o:Oper):TypeId:=match o.op with
 | .load t _=>t
 | _=>0
@[go_sem] def storeTy (o:Oper):TypeId:=match o.op with
 | .store t _ _=>t
 | _=>0
@[go_sem] def opFst (o:Oper):Operand:=match o.op with
 | .load _ x=>x
 | .store _ x _=>x
 | _=>.tmp 0
@[go_sem] def opSnd (o:Oper):Operand:=match o.op with
 | .store _ _ y=>y
 | _=>.tmp 0
def isRowD:TypeDesc→Bool
 | .struct _=>true
 | .array _ _=>true
 | _=>false
def RowsOk (P:Program) (N:TypeId→Nat):Prop:=N 0=0∧∀ ty,N ty≠0→∃ d,P.underlying ty=some d∧isRowD d=true∧(P.info? ty).map (·.size)=some (N ty)
@[go_sem] def wpPlain (P:Program) (o:Oper) (a:Act) (w:World) (K:Act→World→Prop) (Q:Exit→Act→World→Prop):Prop:=o.upon P a K Q ((execOp a.eval o).run P w)
abbrev RowLaw (P:Program) (N:TypeId→Nat):Prop:=∀ (o:Oper) (a:Act) (w:World) (K:Act→World→Prop) (Q:Exit→Act→World→Prop),
  Oper.wp P o a w K Q=@ite _ (N (loadTy o)≠0∧ptrIs w (a.eval (opFst o)) (N (loadTy o))) (Classical.propDecidable _) (K (a.put o.dst (.agg (rowAt w (blkOf (a.eval (opFst o)))))) w)
   (@ite _ (N (storeTy o)≠0∧ptrIs w (a.eval (opFst o)) (N (storeTy o))∧isAggV (a.eval (opSnd o)) (N (storeTy o))) (Classical.propDecidable _) (K (a.put o.dst undef) (w.setRow (blkOf (a.eval (opFst o))) (aggOf (a.eval (opSnd o))))) (wpPlain P o a w K Q))
theorem loadTy_spec {o:Oper} (h:loadTy o≠0):o.op=.load (loadTy o) (opFst o):=by
 unfold loadTy opFst at *;split at h <;> simp_all
theorem storeTy_spec {o:Oper} (h:storeTy o≠0):o.op=.store (storeTy o) (opFst o) (opSnd o):=by
 unfold storeTy opFst opSnd at *;split at h <;> simp_all
theorem row_law {P:Program} {N:TypeId→Nat} (hN:RowsOk P N):RowLaw P N:=by
 intro o a w K Q
 split
 ·rename_i h
  obtain⟨h0,g,hg,cs,t',h1,h2⟩:=h
  obtain⟨d,hu,hd,hi⟩:=hN.2 _ h0
  have ho:=loadTy_spec (o:=o) (fun e=>h0 (by rw [e];exact hN.1))
  generalize loadTy o=ty at *
  generalize opFst o=x at *
  unfold Oper.wp execOp
  simp only [ho]
  simp only [hg,Instr.loadAt,Instr.sureAddr,Sem.run_bind,Sem.run_pure,Result.andThen_ok,blkOf_ptr,rowAt_mk h1,run_loadVar_row w g t' ty cs (0,0) d h1 hu (by cases d <;> first|rfl|simp [isRowD] at hd) (by rw [hi,h2])]
  rfl
 ·split
  ·rename_i _ h
   obtain⟨h0,⟨g,hg,old,t',h1,h2⟩,cs,hcs,h3,h4⟩:=h
   obtain⟨d,hu,hd,hi⟩:=hN.2 _ h0
   have ho:=storeTy_spec (o:=o) (fun e=>h0 (by rw [e];exact hN.1))
   generalize storeTy o=ty at *
   generalize opFst o=x at *
   generalize opSnd o=y at *
   unfold Oper.wp execOp
   simp only [ho]
   simp only [hg,hcs,Instr.storeAt,Instr.sureAddr,Sem.run_bind,Sem.run_pure,Result.andThen_ok,blkOf_ptr,aggOf_agg,run_storeVar_row w g t' ty old cs h1 (by rw [hi,h3]) (by rw [h2,h3]) h4]
   rfl
  ·rfl
theorem Below.drawn {B:Nat} {a w:World} (h:Below B a w) (n:Nat):Below B a (w.drewN n):=⟨h.os,h.tape,h.output,h.size,h.block⟩
theorem Below.row {B:Nat} {w w':World} {g:Nat} {o:Obj} (hb:Below B w w') (h:w.heap[g]?=some o) (hg:g<B):w'.heap[g]?=some o:=(hb.block g hg).trans h
theorem row_other {w:World} {g g' j:Nat} {v:Value} {o:Obj} (h:w.heap[g]?=some o) (hne:g≠g'):(w.setCell ⟨g',j,none⟩ v).heap[g]?=some o:=by
 rw [heap_setCell_other _ _ _ _ hne];exact h
theorem lt_of_row {w:World} {g:Nat} {o:Obj} (h:w.heap[g]?=some o):g<w.heap.size:=(Array.getElem?_eq_some_iff.1 h).1
theorem row_alloc' {w:World} {g:Nat} {o o':Obj} (h:w.heap[g]?=some o):(w.alloc o').heap[g]?=some o:=(heap_alloc_old _ _ (lt_of_row h)).trans h
end Go.Proofs.Ytgigkiocdiffjab
namespace Go.Proofs.Ytgigkiocdiffjab
open Go.RowKit Veil
theorem okRow_bools {l:List Bool} {n:Nat} (h:l.length=n):okRow (bools l) n:=⟨by rw [bools_size,h],bools_one _⟩
@[go_sem] def rowN (t:TypeId):Nat:=if t=179 then 13 else 0
theorem rowN_ok:RowsOk Try.prog rowN:=by
 refine⟨rfl,fun ty h=>?_⟩
 unfold rowN at *
 split at h
 ·subst_vars;exact⟨_,Try.underlying179,rfl,Try.sizeCuts⟩
 ·exact absurd rfl h
@[go_sem ↓] theorem rows_cuts:RowLaw Try.prog rowN:=row_law rowN_ok
theorem matches_yes (s t:ByteArray) (w:World) (hs:validB s=true) (ht:t.size≤maxLen) :
  Calls Try.prog 106 #[.string s,.string t] w fun e w'=>e=.returned (.bool (cutB (bytes s) (bytes t)))∧Below w.heap.size w w':=by
 obtain⟨hs1,hs2⟩:=validB_size hs
 have hsl:s.size≤maxLen:=by unfold maxLen;omega
 unfold maxLen at ht
 go_enter Try.func106,Try.ntmps106
 go_wp2_with fail
 refine (valid_any s _ hsl).mono ?_
 rintro e w' ⟨rfl,rfl⟩
 rw [hs]
 go_wp2_with fail
 refine (nothing_any s _ hs1 hs2).mono ?_
 rintro e w1 ⟨rfl,hb1⟩
 have HN:Hid _:=(Go.heap_alloc_new w1 (.cells (bools (List.replicate 13 false)) 179))
 go_wp2_with (refine wpList_store_row rfl 179 _ _ rfl w1.heap.size (bools (vecTo (bytes s) [] s.size)) rfl rfl 179 (bools (List.replicate 13 false)) HN.out (sizeCuts_of (vecTo_length _ _ _)) (by simp [bools_size,vecTo_length]) (bools_one _) ?_)
 go_loopw [6] (fun i wr=>∃ k:Nat,k≤t.size∧i=.int .i64 k∧wr.heap[w1.heap.size]?=some (.cells (bools (vecTo (bytes s) ((bytes t).take k) s.size)) 179 (0,0))∧Below w.heap.size w wr) (fun i _=>t.size-(intOf i).toNat)
 case atStart=>exact⟨0,Nat.zero_le _,rfl,setRow_heap _ _ _ _ _ _ HN.out,below_setRow (hb1.alloc hb1.size _) hb1.size _⟩
 case round=>
  obtain⟨k,hk,rfl,hrow,hbel⟩:=hrel
  have HR:Hid _:=hrow
  by_cases hlt:k<t.size
  ·have hr1:=rowIs_mk hrow (by rw [bools_size,vecTo_length])
   have hr2:=rowAt_mk hrow
   have hok:=okRow_bools (vecTo_length (bytes s) ((bytes t).take k++[t[k]]) s.size)
   clear hrow
   go_wp2_with fail
   go_region_with (go_at_call 110;refine (read_any s ((bytes t).take k) t[k] _ hs1 hs2).mono ?_;rintro e w2 ⟨rfl,hb2⟩;have hr3:=rowIs_mk (Below.row hb2 HR.out (lt_of_row HR.out)) (by rw [bools_size,vecTo_length]))
   all_goals
    go_wp2
    go_roundw
    case rel=>
     refine⟨k+1,by omega,by go_num,?_,below_setRow (hbel.drew.trans (hb2.mono (by exact hbel.size))) (by exact hb1.size) _⟩
     rw [take_snoc t k hlt]
     exact setRow_heap _ _ _ _ _ _ (Below.row hb2 HR.out (lt_of_row HR.out))
    case measure=>simp [intOf];omega
  ·have hc:=vec_cell hrow (Nat.le_refl s.size) (by omega)
   rw [List.take_of_length_le (by rw [bytes_length];exact Nat.le_refl _),List.take_of_length_le (by rw [bytes_length];omega)] at hc
   clear hrow
   go_wp2
   go_ret
   exact⟨rfl,hbel⟩
end Go.Proofs.Ytgigkiocdiffjab
namespace Veil
def fvec (n:Nat) (f:Nat→Bool):List Bool:=(List.range n).map f
theorem fvec_length (n:Nat) (f:Nat→Bool):(fvec n f).length=n:=by simp [fvec]
theorem fvec_get (n:Nat) (f:Nat→Bool) (j:Nat) (h:j<n):(fvec n f)[j]?=some (f j):=by simp [fvec,h]
end Veil
namespace Go.Proofs.Ytgigkiocdiffjab
open Go.RowKit Veil
theorem bools_made (n:Nat):madeCells #[.bool false] n=bools (fvec n fun _=>false):=by
 apply Array.ext_getElem?
 intro i
 rw [bools_get]
 by_cases hi:i<n
 ·rw [fvec_get _ _ _ hi]
  simp [madeCells,hi,Nat.mod_one]
 ·rw [List.getElem?_eq_none (by rw [fvec_length];omega),Array.getElem?_eq_none (by rw [size_madeCells];omega)]
  rfl
theorem Try.infoBool:(Try.prog.info? 4).map (fun i=>(i.zero,i.size,i.bytes))=some (some (.bool false),1,1):=by kernel_rfl
theorem run_make_bools (n:Nat) (h:n≤281474976710656) (w:World) :
  (Instr.makeSlice 171 (.int .i64 (n:Int)) (.int .i64 (n:Int))).run Try.prog w=.ok (.slice (some ⟨w.heap.size,0,none⟩) n n) (w.alloc (.cells (bools (fvec n fun _=>false)) 4)):=by
 rw [← bools_made]
 exact Go.run_make_row' 171 4 (.bool false) 1 Try.underlying171 Try.infoBool rfl .i64 .i64 n (by omega) (by omega) w
theorem rpattern_any (s:ByteArray) (w:World) (hs:s.size≤maxLen) :
  Calls Try.prog 98 #[.string s] w fun e w'=>e=.returned (.bool (validB s))∧w=w':=by
 unfold maxLen at hs
 go_enter Try.func98,Try.ntmps98
 go_wp2
 go_loop [3] (fun i=>∃ k:Nat,k≤s.size∧i=.int .i64 k∧validTo s k=true) (fun i=>s.size-(intOf i).toNat)
 case atStart=>exact⟨0,Nat.zero_le _,rfl,by simp [validTo]⟩
 case round=>
  obtain⟨k,hk,rfl,hv⟩:=hrel
  have HV:Hid (validTo s k=true):=hv
  clear hv
  by_cases hlt:k<s.size
  ·have HS:Hid _:=validTo_succ s k hlt
   have HF:Hid _:=validTo_false s k hlt
   have HM:Hid (mayB s[k].toNat=(decide (97≤(s[k].toNat:Int)∧(s[k].toNat:Int)≤122) || decide (48≤(s[k].toNat:Int)∧(s[k].toNat:Int)≤57) || (s[k].toNat:Int) == 63 || (s[k].toNat:Int) == 42)):=rfl
   have hb:s[k].toNat<256:=s[k].toNat_lt
   by_cases hA:97≤(s[k].toNat:Int)∧(s[k].toNat:Int)≤122
   ·obtain⟨a1,a2⟩:=hA
    have HT:Hid (validTo s (k+1)=true):=by show _=_;rw [HS.out,HV.out,HM.out];simp [a1,a2]
    go_wp2
    all_goals
     go_round
     case rel=>exact⟨k+1,by omega,by go_num,HT.out⟩
     case measure=>simp [intOf];omega
   by_cases hB:48≤(s[k].toNat:Int)∧(s[k].toNat:Int)≤57
   ·obtain⟨a1,a2⟩:=hB
    have HT:Hid (validTo s (k+1)=true):=by show _=_;rw [HS.out,HV.out,HM.out];simp [a1,a2]
    clear hA
    go_wp2
    all_goals
     go_round
     case rel=>exact⟨k+1,by omega,by go_num,HT.out⟩
     case measure=>simp [intOf];omega
   have hcase:(s[k].toNat:Int)<48∨(57<(s[k].toNat:Int)∧(s[k].toNat:Int)<97)∨122<(s[k].toNat:Int):=by omega
   by_cases h63:(s[k].toNat:Int)=63
   ·have hb63:((s[k].toNat:Int) != 63)=false:=by simp [h63]
    have HT:Hid (validTo s (k+1)=true):=by show _=_;rw [HS.out,HV.out,HM.out];simp [h63]
    have hc1:57<(s[k].toNat:Int):=by omega
    have hc2:(s[k].toNat:Int)<97:=by omega
    clear hA hB hcase h63
    go_wp2
    all_goals
     go_round
     case rel=>exact⟨k+1,by omega,by go_num,HT.out⟩
     case measure=>simp [intOf];omega
   have hb63:((s[k].toNat:Int) != 63)=true:=by simp [h63]
   by_cases h42:(s[k].toNat:Int)=42
   ·have hb42:((s[k].toNat:Int) != 42)=false:=by simp [h42]
    have HT:Hid (validTo s (k+1)=true):=by show _=_;rw [HS.out,HV.out,HM.out];simp [h42]
    have hc1:(s[k].toNat:Int)<48:=by omega
    clear hA hB hcase h63 h42
    go_wp2
    all_goals
     go_round
     case rel=>exact⟨k+1,by omega,by go_num,HT.out⟩
     case measure=>simp [intOf];omega
   have hb42:((s[k].toNat:Int) != 42)=true:=by simp [h42]
   have HT:Hid (validB s=false):=HF.out (by rw [HM.out];simp [h63,h42];omega)
   clear h63 h42 hA hB
   rcases hcase with hc1|⟨hc1,hc2⟩|hc1
   ·go_wp2
    go_ret
    exact⟨ret_bool HT.out.symm,rfl⟩
   ·have hd:decide ((s[k].toNat:Int)≤57)=false:=decide_eq_false (by omega)
    go_wp2
    go_ret
    exact⟨ret_bool HT.out.symm,rfl⟩
   ·have hd:decide ((s[k].toNat:Int)≤57)=false:=decide_eq_false (by omega)
    have hd2:decide ((s[k].toNat:Int)≤122)=false:=decide_eq_false (by omega)
    go_wp2
    go_ret
    exact⟨ret_bool HT.out.symm,rfl⟩
  ·have:k=s.size:=by omega
   subst this
   by_cases h1:1≤s.size
   ·by_cases h2:s.size≤12
    ·have HT:Hid (validB s=true):=validTo_all s h1 h2 HV.out
     go_wp2
     go_ret
     exact⟨ret_bool (by rw [HT.out];simp;omega),rfl⟩
    ·have HT:Hid (validB s=false):=validB_big s (by omega)
     go_wp2
     go_ret
     exact⟨ret_bool (by rw [HT.out];simp;omega),rfl⟩
   ·have HT:Hid (validB s=false):=validB_small s (by omega)
    go_wp2
    go_ret
    exact⟨ret_bool HT.out.symm,rfl⟩
end Go.Proofs.Ytgigkiocdiffjab
namespace Go.Proofs.Ytgigkiocdiffjab
open Go.RowKit Veil
def two {α:Type} (x y:α→Value) (l:List α):List Value:=l.flatMap fun a=>[x a,y a]
section
variable {α:Type} (x y:α→Value)
theorem two_cons (a:α) (l:List α):two x y (a :: l)=x a :: y a :: two x y l:=by simp [two]
theorem two_length (l:List α):(two x y l).length=l.length*2:=by
 induction l with
 | nil=>rfl
 | cons a l ih=>rw [two_cons];simp [ih];omega
theorem two_get (l:List α) (i:Nat):(two x y l)[i*2]?=(l[i]?).map x∧(two x y l)[i*2+1]?=(l[i]?).map y:=by
 induction l generalizing i with
 | nil=>simp [two]
 | cons a l ih=>
  rw [two_cons]
  cases i with
  | zero=>simp
  | succ i=>
   have h1:(i+1)*2=i*2+1+1:=by omega
   have h2:(i+1)*2+1=i*2+1+1+1:=by omega
   rw [h1]
   simpa using ih i
theorem two_set (l:List α) (i:Nat) (a:α) (h:i<l.length):((two x y l).set (i*2) (x a)).set (i*2+1) (y a)=two x y (l.set i a):=by
 induction l generalizing i with
 | nil=>simp at h
 | cons b l ih=>
  rw [two_cons]
  cases i with
  | zero=>simp [two_cons]
  | succ i=>
   have h1:(i+1)*2=i*2+1+1:=by omega
   rw [h1]
   simp only [List.set_cons_succ,two_cons]
   rw [ih i (by simpa using h)]
def SeqAt (w:World) (ao:Option Addr) (l:List α):Prop:=
 l=[]∨∃ b off,ao=some ⟨b,off,none⟩∧b<w.heap.size∧∀ i a,l[i]?=some a→w.cell? ⟨b,off+i*2,none⟩=some (x a)∧w.cell? ⟨b,off+i*2+1,none⟩=some (y a)
def RowAt (w:World) (g:Nat) (t:TypeId) (l:List α):Prop:=w.heap[g]?=some (.cells (two x y l).toArray t (0,0))
variable {x y}
theorem SeqAt.below {w w':World} {ao:Option Addr} {l:List α} (h:SeqAt x y w ao l) (hb:Below w.heap.size w w'):SeqAt x y w' ao l:=by
 rcases h with h|⟨b,off,h1,h2,h3⟩
 ·exact Or.inl h
 ·exact Or.inr ⟨b,off,h1,Nat.lt_of_lt_of_le h2 hb.size,fun i a hi=>⟨(hb.cell (p:=⟨b,off+i*2,none⟩) h2).trans (h3 i a hi).1,(hb.cell (p:=⟨b,off+i*2+1,none⟩) h2).trans (h3 i a hi).2⟩⟩
theorem RowAt.below {w w':World} {g B:Nat} {t:TypeId} {l:List α} (h:RowAt x y w g t l) (hb:Below B w w') (hg:g<B):RowAt x y w' g t l:=Below.row hb h hg
theorem RowAt.lt {w:World} {g:Nat} {t:TypeId} {l:List α} (h:RowAt x y w g t l):g<w.heap.size:=lt_of_row h
theorem RowAt.cell {w:World} {g:Nat} {t:TypeId} {l:List α} (h:RowAt x y w g t l) {i:Nat} {a:α} (hi:l[i]?=some a):w.cell? ⟨g,i*2,none⟩=some (x a)∧w.cell? ⟨g,i*2+1,none⟩=some (y a):=by
 have hg:=two_get x y l i
 rw [hi] at hg
 exact⟨by rw [cell_of_row _ _ _ _ _ _ h];simpa using hg.1,by rw [cell_of_row _ _ _ _ _ _ h];simpa using hg.2⟩
theorem RowAt.frozen {w:World} {g:Nat} {t:TypeId} {l:List α} (h:RowAt x y w g t l) (j:Nat):w.frozen? ⟨g,j,none⟩=false:=frozen_of_row _ _ _ _ _ h
theorem RowAt.store {w:World} {g:Nat} {t:TypeId} {l:List α} (h:RowAt x y w g t l) {i:Nat} (a:α) (hi:i<l.length) :
  RowAt x y ((w.setCell ⟨g,i*2,none⟩ (x a)).setCell ⟨g,i*2+1,none⟩ (y a)) g t (l.set i a):=by
 unfold RowAt at *
 rw [heap_setCell_same _ _ _ _ _ _ (heap_setCell_same _ _ _ _ _ _ h)]
 have:=two_set x y l i a hi
 rw [← this]
 simp
theorem SeqAt.cells {w:World} {b off:Nat} {l:List α} (h:∀ i a,l[i]?=some a→w.cell? ⟨b,off+i*2,none⟩=some (x a)∧w.cell? ⟨b,off+i*2+1,none⟩=some (y a)) (j:Nat) (v:Value) (hj:(two x y l)[j]?=some v):w.cell? ⟨b,off+j,none⟩=some v:=by
 have e:j=(j / 2)*2∨j=(j / 2)*2+1:=by omega
 have hlt:j<(two x y l).length:=(List.getElem?_eq_some_iff.1 hj).1
 rw [two_length] at hlt
 have hi:l[j / 2]?=some l[j / 2]:=List.getElem?_eq_getElem (by omega)
 have hg:=two_get x y l (j / 2)
 have hc:=h _ _ hi
 rw [hi] at hg
 rcases e with e|e
 ·rw [← e] at hg
  rw [hg.1] at hj
  rw [← Option.some.inj hj]
  have:=hc.1
  rwa [← e] at this
 ·rw [← e] at hg
  rw [hg.2] at hj
  rw [← Option.some.inj hj]
  have:=hc.2
  rwa [Nat.add_assoc,← e] at this
end
end Go.Proofs.Ytgigkiocdiffjab
