import Derived.Test.YtgigkiocdiffjaaGreatS22
import Derived.Test.YtgigkiocdiffjaaGreatS13
set_option maxRecDepth 100000
set_option maxHeartbeats 16000000
namespace Go.Proofs.YtgigkiocdiffjaaGreat
open Go.RowKit Veil
structure NW where
 lg:Nat→Value
 vs:Nat→Nat
 wt:Nat→Value
structure DocC (cs:Array Value) (n:Nat) (f:Nat→Nat→Bool) (rv:Value) (GR:Nat→Nat→Bool) (pv:Value) (I:Nat→Nat) (Lg:NW):Prop where
 size:cs.size=173
 ord:cs.extract 0 37=ordC n f
 rules:cs[37]?=some rv
 gr:∀ a b,a<6→b<6→cs[38+a*6+b]?=some (.bool (GR a b))
 rowo:cs.extract 74 111=ordC n f
 cells:cs[111]?=some pv
 ins:∀ i,i<6→cs[112+i]?=some (.int .i64 (I i))
 log:∀ i,i<6→cs[118+i]?=some (Lg.lg i)
 newso:cs.extract 124 161=ordC n f
 ver:∀ i,i<6→cs[161+i]?=some (.int .i64 (Lg.vs i))
 wait:∀ i,i<6→cs[167+i]?=some (Lg.wt i)
theorem extract_set {cs:Array Value} {i a b:Nat} {v:Value} (h:i<a∨b≤i):(cs.setIfInBounds i v).extract a b=cs.extract a b:=by
 apply Array.ext_getElem?
 intro j
 rw [Array.getElem?_extract,Array.getElem?_extract,Array.size_setIfInBounds,Array.getElem?_setIfInBounds]
 by_cases hj:j<min b cs.size-a
 ·rw [if_pos hj,if_pos hj,if_neg (by omega)]
 ·rw [if_neg hj,if_neg hj]
section
variable {cs:Array Value} {n:Nat} {f:Nat→Nat→Bool} {rv:Value} {GR:Nat→Nat→Bool} {pv:Value} {I:Nat→Nat} {Lg:NW}
theorem DocC.setCells (h:DocC cs n f rv GR pv I Lg) (pv':Value):DocC (cs.setIfInBounds 111 pv') n f rv GR pv' I Lg:=by
 have hs:=h.size
 refine⟨by simp [hs],by rw [extract_set (by omega)];exact h.ord,?_,fun a b ha hb=>?_,by rw [extract_set (by omega)];exact h.rowo,?_,fun i hi=>?_,fun i hi=>?_,by rw [extract_set (by omega)];exact h.newso,fun i hi=>?_,fun i hi=>?_⟩
 ·rw [Array.getElem?_setIfInBounds,if_neg (by omega)];exact h.rules
 ·rw [Array.getElem?_setIfInBounds,if_neg (by omega)];exact h.gr a b ha hb
 ·rw [Array.getElem?_setIfInBounds,if_pos rfl,if_pos (by omega)]
 ·rw [Array.getElem?_setIfInBounds,if_neg (by omega)];exact h.ins i hi
 ·rw [Array.getElem?_setIfInBounds,if_neg (by omega)];exact h.log i hi
 ·rw [Array.getElem?_setIfInBounds,if_neg (by omega)];exact h.ver i hi
 ·rw [Array.getElem?_setIfInBounds,if_neg (by omega)];exact h.wait i hi
theorem DocC.setIns (h:DocC cs n f rv GR pv I Lg) {l x:Nat} (hl:l<6) {I':Nat→Nat} (hI:∀ i,i<6→I' i=if i=l then x else I i):DocC (cs.setIfInBounds (112+l) (.int .i64 x)) n f rv GR pv I' Lg:=by
 have hs:=h.size
 refine⟨by simp [hs],by rw [extract_set (by omega)];exact h.ord,?_,fun a b ha hb=>?_,by rw [extract_set (by omega)];exact h.rowo,?_,fun i hi=>?_,fun i hi=>?_,by rw [extract_set (by omega)];exact h.newso,fun i hi=>?_,fun i hi=>?_⟩
 ·rw [Array.getElem?_setIfInBounds,if_neg (by omega)];exact h.rules
 ·rw [Array.getElem?_setIfInBounds,if_neg (by omega)];exact h.gr a b ha hb
 ·rw [Array.getElem?_setIfInBounds,if_neg (by omega)];exact h.cells
 ·rw [Array.getElem?_setIfInBounds,hI i hi]
  by_cases hil:i=l
  ·subst hil;rw [if_pos rfl,if_pos (by omega),if_pos rfl]
  ·rw [if_neg (by omega),if_neg hil];exact h.ins i hi
 ·rw [Array.getElem?_setIfInBounds,if_neg (by omega)];exact h.log i hi
 ·rw [Array.getElem?_setIfInBounds,if_neg (by omega)];exact h.ver i hi
 ·rw [Array.getElem?_setIfInBounds,if_neg (by omega)];exact h.wait i hi
theorem DocC.setLog (h:DocC cs n f rv GR pv I Lg) {l:Nat} {x:Value} (hl:l<6) {G:Nat→Value} (hI:∀ i,i<6→G i=if i=l then x else Lg.lg i):DocC (cs.setIfInBounds (118+l) x) n f rv GR pv I ⟨G,Lg.vs,Lg.wt⟩:=by
 have hs:=h.size
 refine⟨by simp [hs],by rw [extract_set (by omega)];exact h.ord,?_,fun a b ha hb=>?_,by rw [extract_set (by omega)];exact h.rowo,?_,fun i hi=>?_,fun i hi=>?_,by rw [extract_set (by omega)];exact h.newso,fun i hi=>?_,fun i hi=>?_⟩
 ·rw [Array.getElem?_setIfInBounds,if_neg (by omega)];exact h.rules
 ·rw [Array.getElem?_setIfInBounds,if_neg (by omega)];exact h.gr a b ha hb
 ·rw [Array.getElem?_setIfInBounds,if_neg (by omega)];exact h.cells
 ·rw [Array.getElem?_setIfInBounds,if_neg (by omega)];exact h.ins i hi
 ·rw [Array.getElem?_setIfInBounds,show (NW.mk G Lg.vs Lg.wt).lg i=_ from hI i hi]
  by_cases hil:i=l
  ·subst hil;rw [if_pos rfl,if_pos (by omega),if_pos rfl]
  ·rw [if_neg (by omega),if_neg hil];exact h.log i hi
 ·rw [Array.getElem?_setIfInBounds,if_neg (by omega)];exact h.ver i hi
 ·rw [Array.getElem?_setIfInBounds,if_neg (by omega)];exact h.wait i hi
theorem DocC.setVer (h:DocC cs n f rv GR pv I Lg) {l x:Nat} (hl:l<6) {G:Nat→Nat} (hI:∀ i,i<6→G i=if i=l then x else Lg.vs i):DocC (cs.setIfInBounds (161+l) (.int .i64 x)) n f rv GR pv I ⟨Lg.lg,G,Lg.wt⟩:=by
 have hs:=h.size
 refine⟨by simp [hs],by rw [extract_set (by omega)];exact h.ord,?_,fun a b ha hb=>?_,by rw [extract_set (by omega)];exact h.rowo,?_,fun i hi=>?_,fun i hi=>?_,by rw [extract_set (by omega)];exact h.newso,fun i hi=>?_,fun i hi=>?_⟩
 ·rw [Array.getElem?_setIfInBounds,if_neg (by omega)];exact h.rules
 ·rw [Array.getElem?_setIfInBounds,if_neg (by omega)];exact h.gr a b ha hb
 ·rw [Array.getElem?_setIfInBounds,if_neg (by omega)];exact h.cells
 ·rw [Array.getElem?_setIfInBounds,if_neg (by omega)];exact h.ins i hi
 ·rw [Array.getElem?_setIfInBounds,if_neg (by omega)];exact h.log i hi
 ·rw [Array.getElem?_setIfInBounds,show (NW.mk Lg.lg G Lg.wt).vs i=_ from hI i hi]
  by_cases hil:i=l
  ·subst hil;rw [if_pos rfl,if_pos (by omega),if_pos rfl]
  ·rw [if_neg (by omega),if_neg hil];exact h.ver i hi
 ·rw [Array.getElem?_setIfInBounds,if_neg (by omega)];exact h.wait i hi
theorem DocC.setWait (h:DocC cs n f rv GR pv I Lg) {l:Nat} {x:Value} (hl:l<6) {G:Nat→Value} (hI:∀ i,i<6→G i=if i=l then x else Lg.wt i):DocC (cs.setIfInBounds (167+l) x) n f rv GR pv I ⟨Lg.lg,Lg.vs,G⟩:=by
 have hs:=h.size
 refine⟨by simp [hs],by rw [extract_set (by omega)];exact h.ord,?_,fun a b ha hb=>?_,by rw [extract_set (by omega)];exact h.rowo,?_,fun i hi=>?_,fun i hi=>?_,by rw [extract_set (by omega)];exact h.newso,fun i hi=>?_,fun i hi=>?_⟩
 ·rw [Array.getElem?_setIfInBounds,if_neg (by omega)];exact h.rules
 ·rw [Array.getElem?_setIfInBounds,if_neg (by omega)];exact h.gr a b ha hb
 ·rw [Array.getElem?_setIfInBounds,if_neg (by omega)];exact h.cells
 ·rw [Array.getElem?_setIfInBounds,if_neg (by omega)];exact h.ins i hi
 ·rw [Array.getElem?_setIfInBounds,if_neg (by omega)];exact h.log i hi
 ·rw [Array.getElem?_setIfInBounds,if_neg (by omega)];exact h.ver i hi
 ·rw [Array.getElem?_setIfInBounds,show (NW.mk Lg.lg Lg.vs G).wt i=_ from hI i hi]
  by_cases hil:i=l
  ·subst hil;rw [if_pos rfl,if_pos (by omega),if_pos rfl]
  ·rw [if_neg (by omega),if_neg hil];exact h.wait i hi
end
def PBox (w:World) (g n:Nat) (f:Nat→Nat→Bool) (rv:Value) (GR:Nat→Nat→Bool) (pv:Value) (I:Nat→Nat) (Lg:NW):Prop:=∃ cs,w.heap[g]?=some (.cells cs 119 (0,0))∧DocC cs n f rv GR pv I Lg
section
variable {w w':World} {g n B:Nat} {f:Nat→Nat→Bool} {rv:Value} {GR:Nat→Nat→Bool} {pv:Value} {I:Nat→Nat} {Lg:NW}
theorem PBox.below (h:PBox w g n f rv GR pv I Lg) (hb:Below B w w') (hg:g<B):PBox w' g n f rv GR pv I Lg:=by
 obtain⟨cs,h1,h2⟩:=h;exact⟨cs,Below.row hb h1 hg,h2⟩
theorem PBox.lt (h:PBox w g n f rv GR pv I Lg):g<w.heap.size:=by obtain⟨cs,h1,h2⟩:=h;exact lt_of_row h1
theorem PBox.is (h:PBox w g n f rv GR pv I Lg):partIs w g 0 37:=by obtain⟨cs,h1,h2⟩:=h;exact⟨cs,_,h1,by have:=h2.size;omega⟩
theorem PBox.at (h:PBox w g n f rv GR pv I Lg):partAt w g 0 37=ordC n f:=by obtain⟨cs,h1,h2⟩:=h;unfold partAt;rw [rowAt_mk h1];exact h2.ord
theorem PBox.not (h:PBox w g n f rv GR pv I Lg):¬ rowIs w g 37:=by
 obtain⟨cs,h1,h2⟩:=h
 rintro ⟨cs',t',h3,h4⟩
 rw [h1] at h3
 simp only [Option.some.injEq,Obj.cells.injEq] at h3
 have:=h2.size
 rw [h3.1] at this
 omega
theorem PBox.row (h:PBox w g n f rv GR pv I Lg):PRowAt w g 74 n f pv:=by obtain⟨cs,h1,h2⟩:=h;exact⟨cs,_,h1,h2.rowo,h2.cells⟩
theorem PBox.rules (h:PBox w g n f rv GR pv I Lg):w.cell? ⟨g,37,none⟩=some rv:=by obtain⟨cs,h1,h2⟩:=h;rw [cell_of_row _ _ _ _ _ _ h1,h2.rules]
theorem PBox.gr (h:PBox w g n f rv GR pv I Lg) (a b:Nat) (ha:a<6) (hb:b<6):w.cell? ⟨g,38+a*6+b,none⟩=some (.bool (GR a b)):=by obtain⟨cs,h1,h2⟩:=h;rw [cell_of_row _ _ _ _ _ _ h1,h2.gr a b ha hb]
theorem PBox.ins (h:PBox w g n f rv GR pv I Lg) (i:Nat) (hi:i<6):w.cell? ⟨g,112+i,none⟩=some (.int .i64 (I i)):=by obtain⟨cs,h1,h2⟩:=h;rw [cell_of_row _ _ _ _ _ _ h1,h2.ins i hi]
theorem PBox.log (h:PBox w g n f rv GR pv I Lg) (i:Nat) (hi:i<6):w.cell? ⟨g,118+i,none⟩=some (Lg.lg i):=by obtain⟨cs,h1,h2⟩:=h;rw [cell_of_row _ _ _ _ _ _ h1,h2.log i hi]
theorem PBox.frozen (h:PBox w g n f rv GR pv I Lg) (i:Nat):w.frozen? ⟨g,i,none⟩=false:=by obtain⟨cs,h1,h2⟩:=h;exact frozen_of_row _ _ _ _ _ h1
theorem PBox.kept (h:PBox w g n f rv GR pv I Lg) (hk:w'.heap[g]?=w.heap[g]?):PBox w' g n f rv GR pv I Lg:=by obtain⟨cs,h1,h2⟩:=h;exact⟨cs,hk.trans h1,h2⟩
theorem PBox.setCells (h:PBox w g n f rv GR pv I Lg) (pv':Value):PBox (w.setCell ⟨g,111,none⟩ pv') g n f rv GR pv' I Lg:=by
 obtain⟨cs,h1,h2⟩:=h;exact⟨_,heap_setCell_same _ _ _ _ _ _ h1,h2.setCells pv'⟩
theorem PBox.setIns (h:PBox w g n f rv GR pv I Lg) {l x:Nat} (hl:l<6) {I':Nat→Nat} (hI:∀ i,i<6→I' i=if i=l then x else I i):PBox (w.setCell ⟨g,112+l,none⟩ (.int .i64 x)) g n f rv GR pv I' Lg:=by
 obtain⟨cs,h1,h2⟩:=h;exact⟨_,heap_setCell_same _ _ _ _ _ _ h1,h2.setIns hl hI⟩
theorem PBox.setLog (h:PBox w g n f rv GR pv I Lg) {l:Nat} {x:Value} (hl:l<6) {G:Nat→Value} (hI:∀ i,i<6→G i=if i=l then x else Lg.lg i):PBox (w.setCell ⟨g,118+l,none⟩ x) g n f rv GR pv I ⟨G,Lg.vs,Lg.wt⟩:=by
 obtain⟨cs,h1,h2⟩:=h;exact⟨_,heap_setCell_same _ _ _ _ _ _ h1,h2.setLog hl hI⟩
theorem PBox.setVer (h:PBox w g n f rv GR pv I Lg) {l x:Nat} (hl:l<6) {G:Nat→Nat} (hI:∀ i,i<6→G i=if i=l then x else Lg.vs i):PBox (w.setCell ⟨g,161+l,none⟩ (.int .i64 x)) g n f rv GR pv I ⟨Lg.lg,G,Lg.wt⟩:=by
 obtain⟨cs,h1,h2⟩:=h;exact⟨_,heap_setCell_same _ _ _ _ _ _ h1,h2.setVer hl hI⟩
theorem PBox.setWait (h:PBox w g n f rv GR pv I Lg) {l:Nat} {x:Value} (hl:l<6) {G:Nat→Value} (hI:∀ i,i<6→G i=if i=l then x else Lg.wt i):PBox (w.setCell ⟨g,167+l,none⟩ x) g n f rv GR pv I ⟨Lg.lg,Lg.vs,G⟩:=by
 obtain⟨cs,h1,h2⟩:=h;exact⟨_,heap_setCell_same _ _ _ _ _ _ h1,h2.setWait hl hI⟩
theorem PBox.ver (h:PBox w g n f rv GR pv I Lg) (i:Nat) (hi:i<6):w.cell? ⟨g,161+i,none⟩=some (.int .i64 (Lg.vs i)):=by obtain⟨cs,h1,h2⟩:=h;rw [cell_of_row _ _ _ _ _ _ h1,h2.ver i hi]
theorem PBox.wait (h:PBox w g n f rv GR pv I Lg) (i:Nat) (hi:i<6):w.cell? ⟨g,167+i,none⟩=some (Lg.wt i):=by obtain⟨cs,h1,h2⟩:=h;rw [cell_of_row _ _ _ _ _ _ h1,h2.wait i hi]
theorem PBox.isN (h:PBox w g n f rv GR pv I Lg):partIs w g 124 37:=by obtain⟨cs,h1,h2⟩:=h;exact⟨cs,_,h1,by have:=h2.size;omega⟩
theorem PBox.atN (h:PBox w g n f rv GR pv I Lg):partAt w g 124 37=ordC n f:=by obtain⟨cs,h1,h2⟩:=h;unfold partAt;rw [rowAt_mk h1];exact h2.newso
end
def ruleV (r:ByteArray × Int):List Value:=[.string r.1,.int .i64 r.2]
def grF (c:Cfg) (a b:Nat):Bool:=c.grants.any (grantIs a b)
structure CfgRight (c:Cfg):Prop where
 labels:labelsB c=true
 lat:¬ c.noLat
 rules:rulesB c=true
 grants:grantsB c=true
theorem CfgRight.rule {c:Cfg} (h:CfgRight c):c.rules.length≤8∧∀ r,r ∈ c.rules→validB r.1=true∧okL c.labels r.2=true:=by
 have hr:=h.rules
 unfold rulesB at hr
 simp only [Bool.and_eq_true,decide_eq_true_eq] at hr
 refine⟨hr.1,fun r hr'=>?_⟩
 have key:∀ k,k≤c.rules.length→rulesToB c k=true→∀ i,i<k→∀ r,c.rules[i]?=some r→validB r.1=true∧okL c.labels r.2=true:=by
  intro k
  induction k with
  | zero=>intro _ _ i hi;omega
  | succ k ih=>
   intro hk ht i hi r hri
   rw [rulesToB] at ht
   have hck:c.rules[k]?=some (c.rules[k]'(by omega)):=List.getElem?_eq_getElem (by omega)
   simp only [hck,Bool.and_eq_true] at ht
   by_cases hik:i=k
   ·subst hik
    rw [hck] at hri
    obtain rfl:=Option.some.inj hri
    have:=ht.2
    unfold ruleOk at this
    simp only [Bool.and_eq_true] at this
    exact⟨this.1.1,this.1.2⟩
   ·exact ih (by omega) ht.1 i (by omega) r hri
 obtain⟨i,hi,he⟩:=List.getElem_of_mem hr'
 exact key _ (Nat.le_refl _) hr.2 i hi r (by rw [← he];exact List.getElem?_eq_getElem hi)
theorem leO_leI {c:Cfg} (hl:labelsB c=true) (a:Int) (b:Nat) (ha:okL c.labels a=true) (hb:b<c.n):leO c.n (tT c) a b=c.le a b:=by
 obtain⟨_,_,_,_,hn,_,_⟩:=labels_of hl
 obtain⟨x,rfl,hx⟩:=okL_nat' hn ha
 exact leO_le hl x b hx hb
def againstTo (c:Cfg) (d k:Nat):List ByteArray:=((c.rules.take k).filter fun r=>!c.le r.2 d).map (·.1)
theorem againstTo_all (c:Cfg) (d:Nat):againstTo c d c.rules.length=againstL c d:=by unfold againstTo againstL;rw [List.take_length]
theorem againstTo_yes {c:Cfg} {d k:Nat} {r:ByteArray × Int} (h:c.rules[k]?=some r) (hle:c.le r.2 d=false):againstTo c d (k+1)=againstTo c d k++[r.1]:=by
 unfold againstTo;rw [List.take_add_one,h,List.filter_append,List.map_append];simp [hle]
theorem againstTo_no {c:Cfg} {d k:Nat} {r:ByteArray × Int} (h:c.rules[k]?=some r) (hle:c.le r.2 d=true):againstTo c d (k+1)=againstTo c d k:=by
 unfold againstTo;rw [List.take_add_one,h,List.filter_append,List.map_append];simp [hle]
theorem againstTo_length (c:Cfg) (d k:Nat):(againstTo c d k).length≤k:=by
 unfold againstTo
 rw [List.length_map]
 refine Nat.le_trans (List.length_filter_le _ _) ?_
 simp;omega
theorem Tryz.infoStr:(Tryz.prog.info? 9).map (fun i=>(i.zero,i.size,i.bytes))=some (some (.string ⟨#[]⟩),1,16):=by kernel_rfl
theorem dcAgainst_any (c:Cfg) (g n:Nat) (f:Nat→Nat→Bool) (rv pv:Value) (GR:Nat→Nat→Bool) (I:Nat→Nat) (Lg:NW) (B lv:Nat) (w:World) (hbox:PBox w g n f rv GR pv I Lg) (hrl:OwnL 163 2 ruleV w B rv c.rules) (hn:n=c.n) (hf:f=tT c) (hR:CfgRight c) (hlv:lv<c.n) :
  Calls Tryz.prog 110 #[.pointer (some ⟨g,0,none⟩),.int .i64 lv] w fun e w'=>∃ vl,e=.returned vl∧OwnL 9 1 strV w' w.heap.size vl (againstL c lv)∧Below w.heap.size w w':=by
 obtain⟨_,_,_,_,_,hn6,_⟩:=labels_of hR.labels
 have hn6':n≤6:=by omega
 obtain⟨hr8,hrr⟩:=hR.rule
 have HLQ:=hide (fun (r:ByteArray × Int) (hr:r ∈ c.rules) (w':World)=>show Calls Tryz.prog 113 #[.agg (ordC n f),.int .i64 r.2,.int .i64 lv] w' fun e w''=>e=.returned (.bool (c.le r.2 lv))∧Below w'.heap.size w' w'' from (oleq_any n f r.2 lv w' hn6').mono fun e w'' ⟨h1,h2⟩=>⟨by
  rw [h1];subst hn;subst hf
  exact ret_bool (leO_leI hR.labels _ _ (hrr r hr).2 hlv),h2⟩)
 have HBOX:=hide hbox
 have HRL:=hide hrl
 have HAL:=hide (againstTo_all c lv)
 have hgl:=hbox.lt
 obtain⟨ao,cap,hrv⟩:=hrl.shape
 subst hrv
 have d0:=hbox.rules
 clear hbox hrl hn hf hR hlv hrr hn6
 go_enter Tryz.func110,Tryz.ntmps110
 go_wp2
 clear d0
 go_loopw [5,13] (fun vl i wr=>∃ k:Nat,k≤c.rules.length∧i=.int .i64 k∧OwnL 9 1 strV wr w.heap.size vl (againstTo c lv k)∧Below w.heap.size w wr) (fun _ i _=>c.rules.length-(intOf i).toNat)
 case atStart=>exact⟨0,Nat.zero_le _,rfl,OwnL.nil _ _ _ _ _,Below.refl _ _⟩
 case round=>
  obtain⟨wo,rfl⟩:∃ x,x=wr:=⟨_,rfl⟩
  obtain⟨k,hk,rfl,hvl,hbel⟩:=hrel
  have HVL:=hide hvl
  clear hvl
  by_cases hlt:k<c.rules.length
  ·have hki:(k:Int)<(c.rules.length:Int):=by omega
   obtain⟨rb,cp,hvv,_,hrbl⟩:=HRL.out.form (by omega)
   simp only [Value.slice.injEq] at hvv
   obtain⟨rfl,_,rfl⟩:=hvv
   have hej:c.rules[k]?=some c.rules[k]:=List.getElem?_eq_getElem hlt
   have c0:=HRL.out.cell (show ∀ a,(ruleV a).length=2 from fun _=>rfl) rfl hej (j:=0) (by omega)
   have c1:=HRL.out.cell (show ∀ a,(ruleV a).length=2 from fun _=>rfl) rfl hej (j:=1) (by omega)
   have HQX:=hide (fun w'=>HLQ.out c.rules[k] (List.getElem_mem hlt) w')
   have HYES:=hide (fun h=>againstTo_yes (d:=lv) hej h)
   have HNO:=hide (fun h=>againstTo_no (d:=lv) hej h)
   have hal:=againstTo_length c lv k
   generalize c.rules[k]=r at *
   obtain⟨r1,r2⟩:=r
   have e0:wo.cell? ⟨rb,k*2,none⟩=some (.string r1):=(hbel.cell (p:=⟨rb,k*2,none⟩) hrbl).trans c0
   have e1:wo.cell? ⟨rb,k*2+1,none⟩=some (.int .i64 r2):=(hbel.cell (p:=⟨rb,k*2+1,none⟩) hrbl).trans c1
   have hbB:Below wo.heap.size wo (wo.alloc (.cells #[.string r1,.int .i64 r2] 163)):=below_box _ _
   have hbelB:=hbel.trans (hbB.mono hbel.size)
   have HBB:=hide (show PBox (wo.alloc (.cells #[.string r1,.int .i64 r2] 163)).drew g n f _ GR pv I Lg from HBOX.out.below hbelB.drew hgl)
   have HNB:=hide (Go.heap_alloc_new wo (.cells #[.string r1,.int .i64 r2] 163))
   have iB:=HBB.out.is
   have aB:=HBB.out.at
   have s0:(wo.alloc (.cells #[.string r1,.int .i64 r2] 163)).cell? ⟨wo.heap.size,0,none⟩=some (.string r1):=by rw [cell_of_row _ _ _ _ _ _ HNB.out];rfl
   have s1:(wo.alloc (.cells #[.string r1,.int .i64 r2] 163)).cell? ⟨wo.heap.size,1,none⟩=some (.int .i64 r2):=by rw [cell_of_row _ _ _ _ _ _ HNB.out];rfl
   have HVB:=hide (HVL.out.below hbB)
   have hsB:wo.heap.size<(wo.alloc (.cells #[.string r1,.int .i64 r2] 163)).heap.size:=by simp
   have hltB:=HBB.out.lt
   have HQB:=hide (HQX.out (wo.alloc (.cells #[.string r1,.int .i64 r2] 163)).drew)
   simp only at HQB HYES HNO
   clear hej c0 c1
   go_wp2_with fail
   refine wp_region_held_drew (S:=(fun w'=>((partIs w' g 0 37∧partAt w' g 0 37=ordC n f)∧w'.cell? ⟨wo.heap.size,1,none⟩=some (.int .i64 r2)))) (by kernel_rfl) ?_ (fun hHeld=>?_)
   ·exact⟨⟨iB,aB⟩,s1⟩
   refine tV 0 17 ?_
   (try simp only [Act.put,lA,lZ,lS])
   refine tV 1 18 ?_
   (try simp only [Act.put,lA,lZ,lS])
   refine tV 2 19 ?_
   (try simp only [Act.put,lA,lZ,lS])
   refine tW 3 20 (.agg (ordC n f)) ?_ ?_
   ·(intro o ho w hSw;obtain rfl:=Option.some.inj ho;clear ho;exact exec_load_ord rfl rfl hSw.1.1 hSw.1.2)
   (try simp only [Act.put,lA,lZ,lS])
   refine tV 4 21 ?_
   (try simp only [Act.put,lA,lZ,lS])
   refine tV 5 22 ?_
   (try simp only [Act.put,lA,lZ,lS])
   refine tV 6 23 ?_
   (try simp only [Act.put,lA,lZ,lS])
   refine wpAnyH_ready (rs:=[7]) (by kernel_rfl) (by simp) ?_
   refine AllReadyH.cons rfl (fun K hK=>?_) AllReadyH.nil
   go_simp
   go_wp2_with (go_at_call 113;refine (HQB.out).mono ?_;rintro e w5 ⟨rfl,hb5⟩;have HR5:=hide (HBB.out.below hb5 hltB);have i5:=HR5.out.is;have a5:=HR5.out.at;have t0:=(hb5.cell (p:=⟨wo.heap.size,0,none⟩) hsB).trans s0;have t1:=(hb5.cell (p:=⟨wo.heap.size,1,none⟩) hsB).trans s1)
   refine hK.out _ _ ?_ (fun hHeld=>?_)
   ·exact⟨⟨i5,a5⟩,t1⟩
   clear hK K
   refine tV 8 25 ?_
   (try simp only [Act.put,lA,lZ,lS])
   refine wpAnyH_done (by kernel_rfl) ?_ _
   have hbel5:=hbelB.drew.trans (hb5.mono hbelB.drew.size)
   have HV5:=hide (show OwnL 9 1 strV w5 w.heap.size _ (againstTo c lv k) from OwnL.below (w:=(wo.alloc (.cells #[.string r1,.int .i64 r2] 163)).drew) HVB.out hb5)
   clear iB aB s0 s1 i5 a5 t1 e0 e1
   cases hle:c.le r2 lv
   ·have HY1:=hide (HYES.out hle)
    have hbC:Below w5.heap.size w5 (w5.alloc (.cells #[.string r1] 9)):=below_box _ _
    have hbelC:=hbel5.trans (hbC.mono hbel5.size)
    have HVC:=hide (HV5.out.below hbC)
    have HNC:=hide (Go.heap_alloc_new w5 (.cells #[.string r1] 9))
    clear hle
    go_wp2_with (at_builtin;refine wpList_push rfl (.tmp 26) (.tmp 29) 38 rfl (.string ⟨#[]⟩) 16 Tryz.underlying38 Tryz.infoStr rfl (by decide) rfl HVC.out w5.heap.size 1 r1 rfl 9 (0,0) HNC.out rfl (by intro u hu;simp [strV] at hu;rcases hu with rfl;rfl) (by omega) (by decide) hbelC.size (w5.heap.size+1) (by simp) ?_;intro g6 cap6 w6 hown6 hgrow6 hat6 hlt6)
    have hb6:=hbelC.trans (below_of_grown hgrow6 (fun b hb=>(HVC.out.lt hb).1) hbelC.size)
    go_roundw
    case rel=>exact⟨k+1,by omega,by go_num,by rw [HY1.out];exact hown6,hb6⟩
    case measure=>simp [intOf];omega
   ·have HN1:=hide (HNO.out hle)
    clear hle
    go_wp2
    go_roundw
    case rel=>exact⟨k+1,by omega,by go_num,by rw [HN1.out];exact HV5.out,hbel5⟩
    case measure=>simp [intOf];omega
  ·obtain rfl:k=c.rules.length:=by omega
   have hkc:decide ((c.rules.length:Int)<(c.rules.length:Int))=false:=by simp
   go_wp2
   go_ret
   exact⟨_,rfl,by rw [← HAL.out];exact HVL.out,hbel⟩
structure RowGood (c:Cfg) (row:List RC):Prop where
 cells:∀ x,x ∈ row→RCOk c x∧x.b≠35
 length:row.length≤1200
theorem RowGood.by {c:Cfg} {row:List RC} (h:RowGood c row) (r:Nat):byF row r<256:=by
 unfold byF cellAt
 cases hr:row[r]? with
 | none=>simp [List.getD,hr]
 | some x=>simp only [List.getD,hr,Option.getD_some];exact (h.cells x (List.mem_of_getElem? hr)).1.byte
theorem RowGood.no {c:Cfg} {row:List RC} (h:RowGood c row) (r:Nat):byF row r≠35:=by
 unfold byF cellAt
 cases hr:row[r]? with
 | none=>simp [List.getD,hr]
 | some x=>simp only [List.getD,hr,Option.getD_some];exact (h.cells x (List.mem_of_getElem? hr)).2
theorem dcPlaces_any (c:Cfg) (row:List RC) (g n:Nat) (f:Nat→Nat→Bool) (rv pv:Value) (GR:Nat→Nat→Bool) (I:Nat→Nat) (Lg:NW) (B lv:Nat) (w:World) (hbox:PBox w g n f rv GR pv I Lg) (hrl:OwnL 163 2 ruleV w B rv c.rules) (hce:OwnL 181 20 (pcV c) w B pv row) (hn:n=c.n) (hf:f=tT c) (hR:CfgRight c) (hrow:RowGood c row) (hlv:lv<c.n) :
  Calls Tryz.prog 56 #[.pointer (some ⟨g,0,none⟩),.int .i64 lv] w fun e w'=>∃ vl,e=.returned vl∧OwnL 131 3 placeV w' w.heap.size vl (placesR c row lv)∧Below w.heap.size w w':=by
 have hlen:=hrow.length
 have HF:=hide (rwFirst_any c row g 74 n f pv B lv w hce hbox.row hn hf hR.labels hR.lat (fun x hx=>(hrow.cells x hx).1) hlv (by decide) (by omega))
 have HA:=hide (fun (w':World) (hb:Below w.heap.size w w')=>dcAgainst_any c g n f rv pv GR I Lg B lv w' (hbox.below hb hbox.lt) (hrl.below hb) hn hf hR hlv)
 obtain⟨hr8,hrr⟩:=hR.rule
 have hfl:=firstTo_length c row lv row.length
 have hal:=againstTo_length c lv c.rules.length
 rw [againstTo_all] at hal
 have HO:=hide (fun (w':World) (vs va:Value) (hvs:SeqV 4 seV w' vs (firstTo c row lv row.length)) (hva:SeqV 1 strV w' va (againstL c lv))=>vwOf_any (firstTo c row lv row.length) (againstL c lv) vs va w' hvs hva (by omega) (by omega) (fun x hx=>by
  unfold firstTo at hx
  obtain⟨r,_,rfl⟩:=List.mem_map.1 hx
  exact hrow.by r) (fun p hp=>by
  unfold againstL at hp
  obtain⟨r,hr,rfl⟩:=List.mem_map.1 hp
  exact (hrr r (List.mem_filter.1 hr).1).1))
 have HPS:=hide (places_same c row lv hrow.by (fun r _=>hrow.no r))
 rw [HPS.out] at HO
 clear HPS hbox hrl hce hn hf hR hrow hlv hrr
 go_enter Tryz.func56,Tryz.ntmps56
 go_wp2_with fail
 refine (HF.out).mono ?_
 rintro e w1 ⟨vs,rfl,hvs,hb1⟩
 obtain⟨ao1,cap1,hvv⟩:=hvs.shape
 subst hvv
 have HVS:=hide hvs
 clear hvs
 go_wp2_with fail
 refine (HA.out _ hb1).mono ?_
 rintro e w2 ⟨va,rfl,hva,hb2⟩
 obtain⟨ao2,cap2,hvv⟩:=hva.shape
 subst hvv
 have hbw2:=hb1.trans (hb2.mono hb1.size)
 have HO1:=hide (HO.out w2 _ _ ((HVS.out.below hb2).seqV (show ∀ a,(seV a).length=4 from fun _=>rfl)) (hva.seqV (show ∀ a,(strV a).length=1 from fun _=>rfl)))
 clear hva
 go_wp2_with fail
 refine (HO1.out).mono ?_
 rintro e w3 ⟨vp,rfl,hvp,hb3⟩
 go_wp2
 go_ret
 exact⟨_,rfl,hvp.mono hbw2.size,hbw2.trans (hb3.mono hbw2.size)⟩
theorem dcText_any (c:Cfg) (row:List RC) (g n:Nat) (f:Nat→Nat→Bool) (rv pv:Value) (GR:Nat→Nat→Bool) (I:Nat→Nat) (Lg:NW) (B lv:Nat) (w:World) (hbox:PBox w g n f rv GR pv I Lg) (hrl:OwnL 163 2 ruleV w B rv c.rules) (hce:OwnL 181 20 (pcV c) w B pv row) (hn:n=c.n) (hf:f=tT c) (hR:CfgRight c) (hrow:RowGood c row) (hlv:lv<c.n) :
  Calls Tryz.prog 55 #[.pointer (some ⟨g,0,none⟩),.int .i64 lv] w fun e w'=>e=.returned (.string (viewT (placesR c row lv)))∧Below w.heap.size w w':=by
 have HP:=hide (dcPlaces_any c row g n f rv pv GR I Lg B lv w hbox hrl hce hn hf hR hrow hlv)
 obtain⟨h1,h2⟩:=placesR_ok c row lv (fun x hx=>(hrow.cells x hx).1.byte)
 have hlen:=hrow.length
 have HT:=hide (fun (w':World) (vs:Value) (hvs:SeqV 3 placeV w' vs (placesR c row lv))=>vwText_any (placesR c row lv) vs w' hvs (by omega) (fun j=>plB_ok h2 j))
 clear hbox hrl hce hn hf hR hrow hlv h1 h2
 generalize placesR c row lv=P at *
 go_enter Tryz.func55,Tryz.ntmps55
 go_wp2_with fail
 refine (HP.out).mono ?_
 rintro e w1 ⟨vs,rfl,hvs,hb1⟩
 have HT1:=hide (HT.out w1 vs (hvs.seqV (show ∀ a,(placeV a).length=3 from fun _=>rfl)))
 obtain⟨ao1,cap1,hvv⟩:=hvs.shape
 subst hvv
 clear hvs
 go_wp2_with fail
 refine (HT1.out).mono ?_
 rintro e w2 ⟨rfl,hb2⟩
 go_wp2
 go_ret
 exact⟨rfl,hb1.trans (hb2.mono hb1.size)⟩
end Go.Proofs.YtgigkiocdiffjaaGreat
namespace Go.Proofs.YtgigkiocdiffjaaGreat
open Go.RowKit Veil
theorem dcView_no (g n:Nat) (f:Nat→Nat→Bool) (rv pv:Value) (GR:Nat→Nat→Bool) (I:Nat→Nat) (Lg:NW) (level:Int) (w:World) (hbox:PBox w g n f rv GR pv I Lg) (hlv:okL n level=false) :
  Calls Tryz.prog 23 #[.pointer (some ⟨g,0,none⟩),.int .i64 level] w fun e w'=>e=.returned (.tuple #[.string ByteArray.empty,.int .i64 6])∧Below w.heap.size w w':=by
 have i0:=hbox.is
 have a0:=hbox.at
 have r0:=hbox.not
 have HQ:=hide (has_any n f level w)
 rw [hlv] at HQ
 clear hlv hbox
 go_enter Tryz.func23,Tryz.ntmps23
 go_wp2_with fail
 refine (HQ.out).mono ?_
 rintro e w1 ⟨rfl,hb1⟩
 clear i0 a0 r0
 go_wp2
 go_ret2
 exact⟨rfl,hb1⟩
theorem dcSpans_no (g n:Nat) (f:Nat→Nat→Bool) (rv pv:Value) (GR:Nat→Nat→Bool) (I:Nat→Nat) (Lg:NW) (level:Int) (w:World) (hbox:PBox w g n f rv GR pv I Lg) (hlv:okL n level=false) :
  Calls Tryz.prog 28 #[.pointer (some ⟨g,0,none⟩),.int .i64 level] w fun e w'=>e=.returned (.tuple #[.slice none 0 0,.int .i64 6])∧Below w.heap.size w w':=by
 have i0:=hbox.is
 have a0:=hbox.at
 have r0:=hbox.not
 have HQ:=hide (has_any n f level w)
 rw [hlv] at HQ
 clear hlv hbox
 go_enter Tryz.func28,Tryz.ntmps28
 go_wp2_with fail
 refine (HQ.out).mono ?_
 rintro e w1 ⟨rfl,hb1⟩
 clear i0 a0 r0
 go_wp2
 go_ret2
 exact⟨rfl,hb1⟩
theorem dcLeft_no (g n:Nat) (f:Nat→Nat→Bool) (rv pv:Value) (GR:Nat→Nat→Bool) (I:Nat→Nat) (Lg:NW) (level:Int) (w:World) (hbox:PBox w g n f rv GR pv I Lg) (hlv:okL n level=false) :
  Calls Tryz.prog 30 #[.pointer (some ⟨g,0,none⟩),.int .i64 level] w fun e w'=>e=.returned (.tuple #[.int .i64 0,.int .i64 6])∧Below w.heap.size w w':=by
 have i0:=hbox.is
 have a0:=hbox.at
 have r0:=hbox.not
 have HQ:=hide (has_any n f level w)
 rw [hlv] at HQ
 clear hlv hbox
 go_enter Tryz.func30,Tryz.ntmps30
 go_wp2_with fail
 refine (HQ.out).mono ?_
 rintro e w1 ⟨rfl,hb1⟩
 clear i0 a0 r0
 go_wp2
 go_ret2
 exact⟨rfl,hb1⟩
theorem dcLeft_ok (g n:Nat) (f:Nat→Nat→Bool) (rv pv:Value) (GR:Nat→Nat→Bool) (I:Nat→Nat) (Lg:NW) (lv:Nat) (w:World) (hbox:PBox w g n f rv GR pv I Lg) (hn6:n≤6) (hlv:lv<n) (hI:I lv≤200) :
  Calls Tryz.prog 30 #[.pointer (some ⟨g,0,none⟩),.int .i64 lv] w fun e w'=>e=.returned (.tuple #[.int .i64 (200-(I lv:Int)),.int .i64 0])∧Below w.heap.size w w':=by
 have HB:=hide hbox
 have hgl:=hbox.lt
 have i0:=hbox.is
 have a0:=hbox.at
 have r0:=hbox.not
 have HQ:=hide (has_any n f lv w)
 rw [okL_lt hlv] at HQ
 have hli:(lv:Int)<6:=by omega
 generalize hil:I lv=il at *
 have HIL:=hide hil
 clear hbox hil
 go_enter Tryz.func30,Tryz.ntmps30
 go_wp2_with fail
 refine (HQ.out).mono ?_
 rintro e w1 ⟨rfl,hb1⟩
 have c1:=(HB.out.below hb1 hgl).ins lv (by omega)
 rw [HIL.out] at c1
 clear i0 a0 r0
 go_wp2
 go_ret2
 exact⟨by go_num,hb1⟩
theorem dcView_ok (c:Cfg) (row:List RC) (g n:Nat) (f:Nat→Nat→Bool) (rv pv:Value) (GR:Nat→Nat→Bool) (I:Nat→Nat) (Lg:NW) (B:Nat) (lv:Nat) (w:World) (hbox:PBox w g n f rv GR pv I Lg) (hrl:OwnL 163 2 ruleV w B rv c.rules) (hce:OwnL 181 20 (pcV c) w B pv row) (hn:n=c.n) (hf:f=tT c) (hR:CfgRight c) (hrow:RowGood c row) (hlv:lv<c.n) :
  Calls Tryz.prog 23 #[.pointer (some ⟨g,0,none⟩),.int .i64 lv] w fun e w'=>e=.returned (.tuple #[.string (viewT (placesR c row lv)),.int .i64 0])∧Below w.heap.size w w':=by
 have HT:=hide (fun (w':World) (hb:Below w.heap.size w w')=>dcText_any c row g n f rv pv GR I Lg B lv w' (hbox.below hb hbox.lt) (hrl.below hb) (hce.below hb) hn hf hR hrow hlv)
 have i0:=hbox.is
 have a0:=hbox.at
 have r0:=hbox.not
 have HQ:=hide (has_any n f lv w)
 rw [okL_lt (show lv<n by omega)] at HQ
 generalize viewT (placesR c row lv)=s at *
 clear hbox hrl hce hn hf hR hrow hlv
 go_enter Tryz.func23,Tryz.ntmps23
 go_wp2_with fail
 refine (HQ.out).mono ?_
 rintro e w1 ⟨rfl,hb1⟩
 clear i0 a0 r0
 go_wp2_with fail
 refine (HT.out _ hb1).mono ?_
 rintro e w2 ⟨rfl,hb2⟩
 go_wp2
 go_ret2
 exact⟨rfl,hb1.trans (hb2.mono hb1.size)⟩
theorem viewT_len (c:Cfg) (row:List RC) (lv:Nat) (hrow:RowGood c row):(viewT (placesR c row lv)).size≤1200:=by
 have h1:=(placesR_ok c row lv (fun x hx=>(hrow.cells x hx).1.byte)).1
 have h2:=hrow.length
 rw [viewT_size];omega
theorem dcSpans_ok (c:Cfg) (row:List RC) (g n:Nat) (f:Nat→Nat→Bool) (rv pv:Value) (GR:Nat→Nat→Bool) (I:Nat→Nat) (Lg:NW) (B:Nat) (lv:Nat) (w:World) (hbox:PBox w g n f rv GR pv I Lg) (hrl:OwnL 163 2 ruleV w B rv c.rules) (hce:OwnL 181 20 (pcV c) w B pv row) (hn:n=c.n) (hf:f=tT c) (hR:CfgRight c) (hrow:RowGood c row) (hlv:lv<c.n) :
  Calls Tryz.prog 28 #[.pointer (some ⟨g,0,none⟩),.int .i64 lv] w fun e w'=>∃ vl,e=.returned (.tuple #[vl,.int .i64 0])∧OwnL 94 3 spV w' w.heap.size vl (spansTo (viewT (placesR c row lv)) (viewT (placesR c row lv)).size)∧Below w.heap.size w w':=by
 have HT:=hide (fun (w':World) (hb:Below w.heap.size w w')=>dcText_any c row g n f rv pv GR I Lg B lv w' (hbox.below hb hbox.lt) (hrl.below hb) (hce.below hb) hn hf hR hrow hlv)
 have hsz:=viewT_len c row lv hrow
 have i0:=hbox.is
 have a0:=hbox.at
 have r0:=hbox.not
 have HQ:=hide (has_any n f lv w)
 rw [okL_lt (show lv<n by omega)] at HQ
 generalize viewT (placesR c row lv)=s at *
 have HS:=hide (fun (w':World)=>spOf_any s w' (by omega))
 clear hbox hrl hce hn hf hR hrow hlv
 go_enter Tryz.func28,Tryz.ntmps28
 go_wp2_with fail
 refine (HQ.out).mono ?_
 rintro e w1 ⟨rfl,hb1⟩
 clear i0 a0 r0
 go_wp2_with fail
 refine (HT.out _ hb1).mono ?_
 rintro e w2 ⟨rfl,hb2⟩
 have hbw:=hb1.trans (hb2.mono hb1.size)
 go_wp2_with fail
 refine (HS.out _).mono ?_
 rintro e w3 ⟨vl,rfl,hvl,hb3⟩
 obtain⟨ao,cap,hvv⟩:=hvl.shape
 subst hvv
 go_wp2
 go_ret2
 exact⟨_,rfl,hvl.mono hbw.size,hbw.trans (hb3.mono hbw.size)⟩
def pieceB (a b:Int) (m:Nat):Bool:=decide (0≤a) && decide (a<b) && decide (b≤m)
theorem dcPiece_any (a b:Int) (m:Nat) (w:World):Calls Tryz.prog 60 #[.int .i64 a,.int .i64 b,.int .i64 m] w fun e w'=>e=.returned (.bool (pieceB a b m))∧w=w':=by
 have HD:=hide (show pieceB a b m=(decide (0≤a) && decide (a<b) && decide (b≤m)) from rfl)
 by_cases h1:0≤a
 ·by_cases h2:a<b
  ·go_enter Tryz.func60,Tryz.ntmps60
   go_wp2
   go_ret
   exact⟨ret_bool (by rw [HD.out];simp [h1,h2]),rfl⟩
  ·have h2':b≤a:=by omega
   have h2d:decide (a<b)=false:=by simpa using h2
   clear h2
   go_enter Tryz.func60,Tryz.ntmps60
   go_wp2
   go_ret
   exact⟨ret_bool (by rw [HD.out,h2d];simp),rfl⟩
 ·have h1':a<0:=by omega
  have h1d:decide (0≤a)=false:=by simpa using h1
  clear h1
  go_enter Tryz.func60,Tryz.ntmps60
  go_wp2
  go_ret
  exact⟨ret_bool (by rw [HD.out,h1d];simp),rfl⟩
theorem dcMay_any (s:ByteArray) (w:World) (hs:s.size≤140737488355328):Calls Tryz.prog 57 #[.string s] w fun e w'=>e=.returned (.bool (textOkB s))∧w=w':=by
 have HD:=hide (show textOkB s=(okTo s s.size && decide (1≤s.size) && decide (s.size≤40)) from rfl)
 have HSU:=hide (fun k h=>okTo_succ s k h)
 have HFA:=hide (fun k h h'=>okTo_bad s k h h')
 by_cases h1:s.size<1
 ·have h1i:(s.size:Int)<1:=by omega
  go_enter Tryz.func57,Tryz.ntmps57
  go_wp2
  go_ret
  exact⟨ret_bool (by rw [HD.out];simp;omega),rfl⟩
 by_cases h2:40<s.size
 ·have h1i:(1:Int)≤(s.size:Int):=by omega
  have h2i:(40:Int)<(s.size:Int):=by omega
  go_enter Tryz.func57,Tryz.ntmps57
  go_wp2
  go_ret
  exact⟨ret_bool (by rw [HD.out];simp;omega),rfl⟩
 have h1i:(1:Int)≤(s.size:Int):=by omega
 have h2i:(s.size:Int)≤40:=by omega
 have HE:=hide (show textOkB s=okTo s s.size by rw [HD.out];simp [show 1≤s.size by omega,show s.size≤40 by omega])
 clear h1 h2 HD
 go_enter Tryz.func57,Tryz.ntmps57
 go_wp2
 go_loopw [3] (fun i wr=>∃ k:Nat,k≤s.size∧i=.int .i64 k∧okTo s k=true∧w=wr) (fun i _=>s.size-(intOf i).toNat)
 case atStart=>exact⟨0,Nat.zero_le _,rfl,rfl,rfl⟩
 case round=>
  obtain⟨k,hk,rfl,hok,rfl⟩:=hrel
  have HOK:=hide hok
  clear hok
  by_cases hlt:k<s.size
  ·have hki:(k:Int)<(s.size:Int):=by omega
   have HS1:=hide (HSU.out k hlt)
   have HF1:=hide (HFA.out k hlt)
   by_cases b1:s[k].toNat<32
   ·have b1':((s[k].toNat:Nat):Int)<32:=by omega
    have HB:=hide (show okByte s[k].toNat=false by unfold okByte;simp;omega)
    have HT:=hide (HF1.out HB.out)
    clear b1
    go_wp2
    go_ret
    exact⟨ret_bool (by rw [HT.out]),rfl⟩
   ·have b1':(32:Int)≤((s[k].toNat:Nat):Int):=by omega
    by_cases b2:126<s[k].toNat
    ·have b2':(126:Int)<((s[k].toNat:Nat):Int):=by omega
     have HB:=hide (show okByte s[k].toNat=false by unfold okByte;simp;omega)
     have HT:=hide (HF1.out HB.out)
     clear b1 b2
     go_wp2
     go_ret
     exact⟨ret_bool (by rw [HT.out]),rfl⟩
    ·have b2':((s[k].toNat:Nat):Int)≤126:=by omega
     cases b3:(((s[k].toNat:Nat):Int) == 35)
     ·have HB:=hide (show okByte s[k].toNat=true by unfold okByte;simp at b3 ⊢;omega)
      clear b1 b2
      go_wp2
      go_roundw
      case rel=>exact⟨k+1,by omega,by go_num,by rw [HS1.out,HOK.out,HB.out];rfl,trivial⟩
      case measure=>simp [intOf];omega
     ·have HB:=hide (show okByte s[k].toNat=false by unfold okByte;simp at b3 ⊢;omega)
      have HT:=hide (HF1.out HB.out)
      clear b1 b2
      go_wp2
      go_ret
      exact⟨ret_bool (by rw [HT.out]),rfl⟩
  ·obtain rfl:k=s.size:=by omega
   have hkc:decide ((s.size:Int)<(s.size:Int))=false:=by simp
   go_wp2
   go_ret
   exact⟨ret_bool (by rw [HE.out,HOK.out]),rfl⟩
end Go.Proofs.YtgigkiocdiffjaaGreat
