import Derived.Test.YtgigkiocdiffjabU05
import Derived.Test.YtgigkiocdiffjabU06
import Derived.Test.YtgigkiocdiffjabU17
import Derived.Deep.RegionHeld
set_option maxRecDepth 100000
set_option maxHeartbeats 16000000
namespace Go.Proofs.Ytgigkiocdiffjab
open Go.RowKit Veil
def tT (c:Cfg):Nat→Nat→Bool:=tabF c.edges c.n c.n
theorem T_le {c:Cfg} (hl:labelsB c=true) (a b:Nat) (ha:a<c.n) (hb:b<c.n):(tT c) a b=c.le a b:=by
 obtain⟨_,_,_,hE,_,_,_⟩:=labels_of hl
 have:=leM_leB c.edges c.n hE (a:Int) (b:Int) (by simpa using ha)
 unfold Cfg.le
 rw [← this]
 simp [tT,tabF,leM,ha,hb]
theorem le_refl' {c:Cfg} (hl:labelsB c=true) (a:Nat) (ha:a<c.n):c.le a a=true:=by
 obtain⟨_,_,_,hE,_,_,_⟩:=labels_of hl
 exact (leB_iff c.edges c.n hE a a (by simpa using ha)).2 (PathE.refl _ _)
theorem okL_lt {n a:Nat} (h:a<n):okL n a=true:=by simp [okL];omega
theorem leO_nat (n:Nat) (f:Nat→Nat→Bool) (a b:Nat) (ha:a<n) (hb:b<n):leO n f a b=f a b:=by simp [leO,okL_lt ha,okL_lt hb]
theorem leO_le {c:Cfg} (hl:labelsB c=true) (a b:Nat) (ha:a<c.n) (hb:b<c.n):leO c.n (tT c) a b=c.le a b:=by rw [leO_nat _ _ _ _ ha hb,T_le hl _ _ ha hb]
def tT' (c:Cfg):Nat→Nat→Bool:=turnF c.n (tT c) c.n 0
theorem leO_ge {c:Cfg} (hl:labelsB c=true) (a b:Nat) (ha:a<c.n) (hb:b<c.n):leO c.n (tT' c) a b=c.le b a:=by
 rw [leO_nat _ _ _ _ ha hb,← T_le hl _ _ hb ha]
 simp [tT',turnF,ha,hb]
theorem firstN_congr {p q:Nat→Bool} {n:Nat} (h:∀ j,j<n→p j=q j):firstN p n=firstN q n:=by
 rcases firstN_cases q n with⟨j,hj,h1,h2,h3⟩|⟨h1,h2⟩
 ·rw [h3];exact firstN_yes hj (by rw [h j hj];exact h1) fun i hi=>by rw [h i (by omega)];exact h2 i hi
 ·rw [h2];exact firstN_no fun i hi=>by rw [h i hi];exact h1 i hi
theorem all_range_congr {n:Nat} {p q:Nat→Bool} (h:∀ j,j<n→p j=q j):(List.range n).all p=(List.range n).all q:=by
 rw [Bool.eq_iff_iff,List.all_eq_true,List.all_eq_true]
 constructor
 ·intro hp j hj;rw [← h j (by simpa using hj)];exact hp j hj
 ·intro hp j hj;rw [h j (by simpa using hj)];exact hp j hj
theorem leastO_join {c:Cfg} (hl:labelsB c=true) (a b:Nat) (ha:a<c.n) (hb:b<c.n):leastO c.n (tT c) a b=c.join a b:=by
 unfold leastO Cfg.join
 apply firstN_congr
 intro j hj
 unfold abvO blwO Cfg.isJoin Cfg.up
 rw [leO_le hl _ _ ha hj,leO_le hl _ _ hb hj]
 congr 1
 apply all_range_congr
 intro k hk
 unfold abvO
 rw [leO_le hl _ _ ha hk,leO_le hl _ _ hb hk,leO_le hl _ _ hj hk]
theorem leastO_meet {c:Cfg} (hl:labelsB c=true) (a b:Nat) (ha:a<c.n) (hb:b<c.n):leastO c.n (tT' c) a b=c.meet a b:=by
 unfold leastO Cfg.meet
 apply firstN_congr
 intro j hj
 unfold abvO blwO Cfg.isMeet Cfg.down
 rw [leO_ge hl _ _ ha hj,leO_ge hl _ _ hb hj]
 congr 1
 apply all_range_congr
 intro k hk
 unfold abvO
 rw [leO_ge hl _ _ ha hk,leO_ge hl _ _ hb hk,leO_ge hl _ _ hj hk]
theorem circle_iff {c:Cfg} (hl:labelsB c=true):circleO c.n (tT c) ↔ c.circle:=by
 constructor
 ·rintro ⟨a,b,ha,hb,h1,h2⟩
  exact⟨a,b,ha,by omega,by omega,by rw [← T_le hl _ _ ha (by omega)];exact h1,by rw [← T_le hl _ _ (by omega) ha];exact h2⟩
 ·rintro ⟨a,b,ha,hb,hne,h1,h2⟩
  by_cases h:b<a
  ·exact⟨a,b,ha,h,by rw [T_le hl _ _ ha hb];exact h1,by rw [T_le hl _ _ hb ha];exact h2⟩
  ·exact⟨b,a,hb,by omega,by rw [T_le hl _ _ hb ha];exact h2,by rw [T_le hl _ _ ha hb];exact h1⟩
theorem join_comm (c:Cfg) (a b:Int):c.join a b=c.join b a:=by
 unfold Cfg.join
 apply firstN_congr
 intro j _
 have:∀ k:Int,c.up a b k=c.up b a k:=fun k=>by unfold Cfg.up;rw [Bool.and_comm]
 unfold Cfg.isJoin
 simp only [this]
theorem meet_comm (c:Cfg) (a b:Int):c.meet a b=c.meet b a:=by
 unfold Cfg.meet
 apply firstN_congr
 intro j _
 have:∀ k:Int,c.down a b k=c.down b a k:=fun k=>by unfold Cfg.down;rw [Bool.and_comm]
 unfold Cfg.isMeet
 simp only [this]
theorem firstN_pos {p:Nat→Bool} {n j:Nat} (hj:j<n) (h:p j=true):0≤firstN p n:=by
 rcases firstN_cases p n with⟨i,_,_,_,h3⟩|⟨h1,_⟩
 ·rw [h3];omega
 ·rw [h1 j hj] at h;simp at h
theorem join_self {c:Cfg} (hl:labelsB c=true) (a:Nat) (ha:a<c.n):0≤c.join a a:=by
 refine firstN_pos ha ?_
 unfold Cfg.isJoin Cfg.up
 rw [le_refl' hl a ha]
 simp only [Bool.and_self,Bool.true_and,List.all_eq_true]
 intro k _
 cases c.le a k <;> rfl
theorem meet_self {c:Cfg} (hl:labelsB c=true) (a:Nat) (ha:a<c.n):0≤c.meet a a:=by
 refine firstN_pos ha ?_
 unfold Cfg.isMeet Cfg.down
 rw [le_refl' hl a ha]
 simp only [Bool.and_self,Bool.true_and,List.all_eq_true]
 intro k _
 cases c.le k a <;> rfl
theorem lat_iff {c:Cfg} (hl:labelsB c=true):latO c.n (tT c) ↔ ¬ c.noLat:=by
 constructor
 ·rintro ⟨h1,h2⟩ ⟨a,b,ha,hb,h⟩
  have hj:0≤c.join a b:=by
   rcases Nat.lt_trichotomy b a with h'|rfl|h'
   ·rw [← leastO_join hl _ _ ha hb];exact h1 a b ha h'
   ·exact join_self hl _ ha
   ·rw [join_comm,← leastO_join hl _ _ hb ha];exact h1 b a hb h'
  have hm:0≤c.meet a b:=by
   rcases Nat.lt_trichotomy b a with h'|rfl|h'
   ·rw [← leastO_meet hl _ _ ha hb];exact h2 a b ha h'
   ·exact meet_self hl _ ha
   ·rw [meet_comm,← leastO_meet hl _ _ hb ha];exact h2 b a hb h'
  omega
 ·intro h
  refine⟨fun a b ha hb=>?_,fun a b ha hb=>?_⟩
  ·rw [leastO_join hl _ _ ha (by omega)]
   exact Int.not_lt.1 fun h'=>h ⟨a,b,ha,by omega,Or.inl h'⟩
  ·have:=leastO_meet hl a b ha (by omega)
   unfold tT' at this
   rw [this]
   exact Int.not_lt.1 fun h'=>h ⟨a,b,ha,by omega,Or.inr h'⟩
theorem grants_iff {c:Cfg} (hl:labelsB c=true):grantsO c.n (tT c) c.grants=grantsB c:=by
 unfold grantsO grantsB
 congr 2
 obtain⟨_,_,_,_,hn,_,_⟩:=labels_of hl
 funext g
 unfold grantO grantOk
 by_cases h1:okL c.labels g.1=true
 ·by_cases h2:okL c.labels g.2=true
  ·rw [← hn] at h1 h2
   obtain⟨x,hx,hx'⟩:=okL_cast h1
   obtain⟨y,hy,hy'⟩:=okL_cast h2
   rw [hx,hy,leO_le hl _ _ hy' hx',← hn,okL_lt hx',okL_lt hy']
   rw [show ((y:Int) == (x:Int))=((x:Int) == (y:Int)) from BEq.comm]
   simp
  ·have h2':okL c.labels g.2=false:=by simpa using h2
   simp [leO,hn,h2']
 ·have h1':okL c.labels g.1=false:=by simpa using h1
  simp [leO,hn,h1']
end Go.Proofs.Ytgigkiocdiffjab
namespace Go.Proofs.Ytgigkiocdiffjab
open Go.RowKit Veil
theorem NewIs.right {c:Cfg} {L:Int} {f:Nat→Nat→Bool} (h:NewIs c 0 L f):labelsB c=true∧¬ c.circle∧¬ c.noLat∧L=c.n∧f=tT c:=by
 cases hl:labelsB c with
 | false=>have:=h.one hl;omega
 | true=>
  by_cases h1:c.circle
  ·have:=h.two hl ((circle_iff hl).2 h1);omega
  ·have h1':¬ circleO c.n (tT c):=fun h'=>h1 ((circle_iff hl).1 h')
   by_cases h2:c.noLat
   ·have:=h.three hl h1' (fun h'=>(lat_iff hl).1 h' h2);omega
   ·obtain⟨_,h3,h4⟩:=h.ok hl h1' ((lat_iff hl).2 h2)
    exact⟨rfl,h1,h2,h3,h4⟩
theorem NewIs.wrong {c:Cfg} {code L:Int} {f:Nat→Nat→Bool} (h:NewIs c code L f) (hne:code≠0):CheckIs c code:=by
 cases hl:labelsB c with
 | false=>exact⟨fun _=>h.one hl,fun h'=>by simp [hl] at h',fun h'=>by simp [hl] at h',fun h'=>by simp [hl] at h',fun h'=>by simp [hl] at h',fun h'=>by simp [hl] at h'⟩
 | true=>
  by_cases h1:c.circle
  ·have:=h.two hl ((circle_iff hl).2 h1)
   exact⟨fun h'=>by simp [hl] at h',fun _ _=>this,fun _ h'=>absurd h1 h',fun _ h'=>absurd h1 h',fun _ h'=>absurd h1 h',fun _ h'=>absurd h1 h'⟩
  ·have h1':¬ circleO c.n (tT c):=fun h'=>h1 ((circle_iff hl).1 h')
   by_cases h2:c.noLat
   ·have:=h.three hl h1' (fun h'=>(lat_iff hl).1 h' h2)
    exact⟨fun h'=>by simp [hl] at h',fun _ h'=>absurd h' h1,fun _ _ _=>this,fun _ _ h'=>absurd h2 h',fun _ _ h'=>absurd h2 h',fun _ _ h'=>absurd h2 h'⟩
   ·obtain⟨h3,_,_⟩:=h.ok hl h1' ((lat_iff hl).2 h2)
    exact absurd h3 hne
theorem cCheck_any (c:Cfg) (v:CfgV) (w:World) (hok:CfgOk c) (hat:CfgAt w c v) (hcap:c.rules.length≤v.rc) :
  Calls Try.prog 45 #[.agg (cfgCells c v)] w fun e w'=>∃ code L f,e=.returned (.tuple #[.agg (ordC L f),.int .i64 code])∧(CheckIs c code∧(code=0→L=c.n∧f=tT c))∧Below w.heap.size w w':=by
 have k1:c.edges.length<2 ^ 57:=Nat.lt_of_le_of_lt hok.edges (by decide)
 have k2:c.rules.length<2 ^ 57:=Nat.lt_of_le_of_lt hok.rules (by decide)
 have k3:c.grants.length<2 ^ 57:=Nat.lt_of_le_of_lt hok.grants (by decide)
 have HNEW:=hide (fun w' (hb:Below w.heap.size w w')=>new_any c v.ea v.ec w' k1 (hat.edges.below hb))
 have HRUL:=hide (fun f w' (hb:Below w.heap.size w w')=>areRules_any c f v.ra v.rc w' k2 hcap hok.texts (hat.rules.below hb))
 have HGRA:=hide (fun (hn:c.n≤6) w' (hb:Below w.heap.size w w')=>areGrants_any c.n (tT c) c.grants v.ga v.gc w' hn k3 (hat.grants.below hb))
 have HB0:=hide (below_box w (.cells (cfgCells c v) 26))
 have HX0:=hide (box_new w c v)
 have HB1:=hide ((HB0.out).alloc (by simp) (.cells (ordC 0 noF) 84))
 have HX1:Hid (BoxAt ((w.alloc (.cells (cfgCells c v) 26)).alloc (.cells (ordC 0 noF) 84)) w.heap.size c v):=HX0.out.below (below_box _ _) (by simp)
 have HN1:=hide (heap_alloc2_new w (.cells (cfgCells c v) 26) (.cells (ordC 0 noF) 84))
 clear hok hat hcap k1 k2 k3
 unfold cfgCells at *
 go_enter Try.func45,Try.ntmps45
 go_wp2_with (refine wpList_alloc_ord rfl rfl ?_)
 refine (HNEW.out _ HB1.out).mono ?_
 rintro e w1 ⟨code,L,f,rfl,hnew,hb1⟩
 have hbel1:=HB1.out.trans (hb1.mono (by simp;omega))
 have HR1:Hid (w1.heap[w.heap.size+1]?=some (.cells (ordC 0 noF) 84 (0,0))):=Below.row hb1 HN1.out (lt_of_row HN1.out)
 have HX2:=hide (HX1.out.below hb1 HX1.out.lt)
 have HNEW2:=hide hnew
 have HN:=hide (Go.heap_alloc_new w1 (.cells (ordC 0 noF) 84))
 have hlt1:=lt_of_row HR1.out
 have i2:rowIs (w1.alloc (.cells (ordC 0 noF) 84)) w1.heap.size 37:=⟨_,_,HN.out,ordC_size _ _⟩
 have HO3:Hid (OrdAt ((w1.alloc (.cells (ordC 0 noF) 84)).setRow w1.heap.size (ordC L f)) w1.heap.size L f):=setRow_heap _ _ _ (ordC L f) _ _ HN.out
 have HR3:Hid (((w1.alloc (.cells (ordC 0 noF) 84)).setRow w1.heap.size (ordC L f)).heap[w.heap.size+1]?=some (.cells (ordC 0 noF) 84 (0,0))):=(setRow_other _ _ _ _ (Nat.ne_of_lt hlt1)).trans (row_alloc' HR1.out)
 have HB3:Hid (Below w1.heap.size w1 ((w1.alloc (.cells (ordC 0 noF) 84)).setRow w1.heap.size (ordC L f))):=below_setRow (below_box _ _) (Nat.le_refl _) _
 have HX3:=hide (HX2.out.below HB3.out HX2.out.lt)
 have hbel3:=hbel1.trans (HB3.out.mono hbel1.size)
 have i3:=HO3.out.is
 have a3:=HO3.out.at
 have j3:rowIs ((w1.alloc (.cells (ordC 0 noF) 84)).setRow w1.heap.size (ordC L f)) (w.heap.size+1) 37:=⟨_,_,HR3.out,ordC_size _ _⟩
 obtain⟨q0,q1,q2,q3⟩:=HX3.out.cells
 clear hb1 HNEW HX0 HX1 HX2 HB0 HB1 HN1 HR1 hnew HB3
 cases hcode:(code == 0)
 ·have hne:Hid (code≠0):=(show code≠0 by simpa using hcode)
  have HW:=hide (HNEW2.out.wrong hne.out)
  go_wp2_with (first|(refine wpList_alloc_ord rfl rfl ?_)|(refine wpList_build_zero rfl rfl ?_))
  exact bodyPost_ret (results_cell_tmp Try.results45 _ _ (w.heap.size+1) _ (ordC 0 noF) (0,0) _ (by simp) (setRow_heap _ _ _ _ _ _ HR3.out) Try.underlying84 rfl (by rw [Try.sizeOrder,ordC_size])) rfl ⟨code,0,noF,rfl,⟨HW.out,fun h=>absurd h hne.out⟩,below_setRow hbel3 (by omega) _⟩
 obtain rfl:code=0:=by simpa using hcode
 obtain⟨hl,hnc,hnl,hL,hf⟩:=HNEW2.out.right
 obtain⟨_,_,_,_,hn,hn6,_⟩:=labels_of hl
 have HRUL2:=hide (HRUL.out f)
 rw [← hn,← hL] at HRUL2
 have HGRA2:=hide (HGRA.out hn6)
 rw [grants_iff hl,← hL,← hf] at HGRA2
 have HLF:=hide (And.intro hL hf)
 have HP:=hide (And.intro hl (And.intro hnc hnl))
 clear HRUL HGRA hl hnc hnl HNEW2 hL hf hn hn6 hcode
 go_wp2_with (refine wpList_alloc_ord rfl rfl ?_)
 refine (HRUL2.out _ hbel3).mono ?_
 rintro e w4 ⟨rfl,hb4⟩
 have hbel4:=hbel3.trans (hb4.mono hbel3.size)
 have HR4:Hid (w4.heap[w.heap.size+1]?=some (.cells (ordC 0 noF) 84 (0,0))):=Below.row hb4 HR3.out (lt_of_row HR3.out)
 have HO4:=hide (HO3.out.below hb4 HO3.out.lt)
 have HX4:=hide (HX3.out.below hb4 HX3.out.lt)
 have i4:=HO4.out.is
 have a4:=HO4.out.at
 have j4:rowIs w4 (w.heap.size+1) 37:=⟨_,_,HR4.out,ordC_size _ _⟩
 clear hb4 i3 a3 j3 i2 q0 q1 q2 q3 HN HO3 HR3 HX3
 obtain⟨q0,q1,q2,q3⟩:=HX4.out.cells
 cases g1:rulesB c
 ·have G1:=hide g1
  clear g1
  go_wp2_with (refine wpList_build_zero rfl rfl ?_)
  exact bodyPost_ret (results_cell_tmp Try.results45 _ _ (w.heap.size+1) _ (ordC 0 noF) (0,0) _ (by simp) (setRow_heap _ _ _ _ _ _ HR4.out) Try.underlying84 rfl (by rw [Try.sizeOrder,ordC_size])) rfl ⟨4,0,noF,rfl,⟨⟨fun h=>by simp [HP.out.1] at h,fun _ h=>absurd h HP.out.2.1,fun _ _ h=>absurd h HP.out.2.2,fun _ _ _ _=>rfl,fun _ _ _ h=>by simp [G1.out] at h,fun _ _ _ h=>by simp [G1.out] at h⟩,fun h=>by simp at h⟩,below_setRow hbel4 (by omega) _⟩
 have G1:=hide g1
 clear g1
 go_wp2_with fail
 refine (HGRA2.out _ hbel4).mono ?_
 rintro e w5 ⟨rfl,hb5⟩
 have hbel5:=hbel4.trans (hb5.mono hbel4.size)
 have HR5:Hid (w5.heap[w.heap.size+1]?=some (.cells (ordC 0 noF) 84 (0,0))):=Below.row hb5 HR4.out (lt_of_row HR4.out)
 have HO5:=hide (HO4.out.below hb5 HO4.out.lt)
 have i5:=HO5.out.is
 have a5:=HO5.out.at
 have j5:rowIs w5 (w.heap.size+1) 37:=⟨_,_,HR5.out,ordC_size _ _⟩
 clear hb5 i4 a4 j4 q0 q1 q2 q3
 cases g2:grantsB c
 ·have G2:=hide g2
  clear g2
  go_wp2_with (refine wpList_build_zero rfl rfl ?_)
  exact bodyPost_ret (results_cell_tmp Try.results45 _ _ (w.heap.size+1) _ (ordC 0 noF) (0,0) _ (by simp) (setRow_heap _ _ _ _ _ _ HR5.out) Try.underlying84 rfl (by rw [Try.sizeOrder,ordC_size])) rfl ⟨5,0,noF,rfl,⟨⟨fun h=>by simp [HP.out.1] at h,fun _ h=>absurd h HP.out.2.1,fun _ _ h=>absurd h HP.out.2.2,fun _ _ _ h=>by simp [G1.out] at h,fun _ _ _ _ _=>rfl,fun _ _ _ _ h=>by simp [G2.out] at h⟩,fun h=>by simp at h⟩,below_setRow hbel5 (by omega) _⟩
 ·have G2:=hide g2
  clear g2
  go_wp2
  exact bodyPost_ret (results_cell_tmp Try.results45 _ _ (w.heap.size+1) _ (ordC L f) (0,0) _ (by simp) (setRow_heap _ _ _ _ _ _ HR5.out) Try.underlying84 rfl (by rw [Try.sizeOrder,ordC_size])) rfl ⟨0,L,f,rfl,⟨⟨fun h=>by simp [HP.out.1] at h,fun _ h=>absurd h HP.out.2.1,fun _ _ h=>absurd h HP.out.2.2,fun _ _ _ h=>by simp [G1.out] at h,fun _ _ _ _ h=>by simp [G2.out] at h,fun _ _ _ _ _=>rfl⟩,fun _=>HLF.out⟩,below_setRow hbel5 (by omega) _⟩
end Go.Proofs.Ytgigkiocdiffjab
namespace Go.Proofs.Ytgigkiocdiffjab
open Go.RowKit Veil
theorem oJoin_any (n:Nat) (f:Nat→Nat→Bool) (a b:Int) (w:World) (hn:n≤6) :
  Calls Try.prog 99 #[.agg (ordC n f),.int .i64 a,.int .i64 b] w fun e w'=>e=.returned (.int .i64 (posI (leastO n f a b)))∧Below w.heap.size w w':=by
 have i0:=(ord_new w n f).is
 have a0:=(ord_new w n f).at
 have hb0:=below_box w (.cells (ordC n f) 84)
 go_enter Try.func99,Try.ntmps99
 go_wp2_with fail
 refine (least_any n f a b _ hn).mono ?_
 rintro e w1 ⟨rfl,hb1⟩
 have hbel1:=hb0.trans (hb1.mono (by simp))
 clear hb1 i0 a0
 go_wp2
 go_ret
 exact⟨rfl,hbel1⟩
def TwoIs {α:Type} (c:Cfg) (a b:Int) (z x r:α) (code:Int):Prop:=∃ k,CheckIs c k∧(k≠0→r=z∧code=k)∧(k=0→(okL c.labels a && okL c.labels b)=false→r=z∧code=6)∧(k=0→(okL c.labels a && okL c.labels b)=true→r=x∧code=0)
theorem TwoIs.same {α:Type} {c:Cfg} {a b:Int} {z x r r':α} {code code':Int} (h:TwoIs c a b z x r code) (h':TwoIs c a b z x r' code'):r=r'∧code=code':=by
 obtain⟨k,h1,h2,h3,h4⟩:=h
 obtain⟨k',h1',h2',h3',h4'⟩:=h'
 obtain rfl:=h1.same h1'
 by_cases hk:k=0
 ·cases ho:(okL c.labels a && okL c.labels b)
  ·obtain⟨e1,e2⟩:=h3 hk ho
   obtain⟨e3,e4⟩:=h3' hk ho
   exact⟨e1.trans e3.symm,e2.trans e4.symm⟩
  ·obtain⟨e1,e2⟩:=h4 hk ho
   obtain⟨e3,e4⟩:=h4' hk ho
   exact⟨e1.trans e3.symm,e2.trans e4.symm⟩
 ·obtain⟨e1,e2⟩:=h2 hk
  obtain⟨e3,e4⟩:=h2' hk
  exact⟨e1.trans e3.symm,e2.trans e4.symm⟩
structure TwoNo (c:Cfg) (a b:Int) (k:Int):Prop where
 ne:k≠0
 is:∃ k0,CheckIs c k0∧(k0≠0→k=k0)∧(k0=0→(okL c.labels a && okL c.labels b)=false∧k=6)
theorem TwoNo.two {α:Type} {c:Cfg} {a b k:Int} (h:TwoNo c a b k) (z x:α):TwoIs c a b z x z k:=by
 obtain⟨k0,h1,h2,h3⟩:=h.is
 exact⟨k0,h1,fun hk=>⟨rfl,h2 hk⟩,fun hk _=>⟨rfl,(h3 hk).2⟩,fun hk ho=>by rw [(h3 hk).1] at ho;simp at ho⟩
end Go.Proofs.Ytgigkiocdiffjab
namespace Go.Proofs.Ytgigkiocdiffjab
open Go.RowKit Veil
end Go.Proofs.Ytgigkiocdiffjab
namespace Go.Proofs.Ytgigkiocdiffjab
open Go.RowKit Veil
theorem vOpen_bad (c:Cfg) (v:CfgV) (k:Int) (w:World) (hok:CfgOk c) (hat:CfgAt w c v) (hcap:c.rules.length≤v.rc) (hk:CheckIs c k) (hne:k≠0) :
  Calls Try.prog 23 #[.agg (cfgCells c v)] w fun e w'=>e=.returned (.tuple #[.pointer none,.int .i64 k])∧Below w.heap.size w w':=by
 have HQ:=hide (fun w' (hb:Below w.heap.size w w')=>cCheck_any c v w' hok (hat.below hb) hcap)
 have HB0:=hide (below_box w (.cells (cfgCells c v) 26))
 have HK:=hide hk
 have hcode:(k == 0)=false:=by simpa using hne
 clear hok hat hcap hk
 unfold cfgCells at *
 go_enter Try.func23,Try.ntmps23
 go_wp2_with fail
 refine (HQ.out _ HB0.out).mono ?_
 rintro e w1 ⟨code,L,f,rfl,⟨hc,_⟩,hb1⟩
 obtain rfl:=hc.same HK.out
 have hbel1:=HB0.out.trans (hb1.mono (by simp))
 have HN:=hide (Go.heap_alloc_new w1 (.cells (ordC 0 noF) 84))
 have i2:rowIs (w1.alloc (.cells (ordC 0 noF) 84)) w1.heap.size 37:=⟨_,_,HN.out,ordC_size _ _⟩
 have hbel3:Below w.heap.size w ((w1.alloc (.cells (ordC 0 noF) 84)).setRow w1.heap.size (ordC L f)):=below_setRow (hbel1.alloc hbel1.size _) hbel1.size _
 clear hb1 HB0 hc HK HQ
 go_wp2_with (refine wpList_alloc_ord rfl rfl ?_)
 go_ret2
 exact⟨rfl,hbel3⟩
end Go.Proofs.Ytgigkiocdiffjab
namespace Go.Proofs.Ytgigkiocdiffjab
open Go.RowKit Veil
structure Right (c:Cfg):Prop where
 labels:labelsB c=true
 circle:¬ c.circle
 lat:¬ c.noLat
theorem right_of {c:Cfg} (h:CheckIs c 0):Right c:=by
 obtain⟨h1,h2,h3⟩:=h.right rfl
 exact⟨h1,h2,h3⟩
theorem le_path {c:Cfg} (h:Right c) (a b:Nat) (ha:a<c.n):c.le a b=true ↔ PathE c.edges a b:=by
 obtain⟨_,_,_,hE,_,_,_⟩:=labels_of h.labels
 have:=leB_iff c.edges c.n hE a b (by simpa using ha)
 simpa [Cfg.le] using this
theorem le_trans' {c:Cfg} (h:Right c) {a b d:Nat} (ha:a<c.n) (hb:b<c.n) (h1:c.le a b=true) (h2:c.le b d=true):c.le a d=true:=
 (le_path h a d ha).2 (((le_path h a b ha).1 h1).trans ((le_path h b d hb).1 h2))
theorem le_anti {c:Cfg} (h:Right c) {a b:Nat} (ha:a<c.n) (hb:b<c.n) (hne:a≠b):(c.le a b && c.le b a)=false:=by
 cases h1:c.le a b
 ·rfl
 ·cases h2:c.le b a
  ·rfl
  ·exact absurd ⟨a,b,ha,hb,hne,h1,h2⟩ h.circle
theorem le_edge {c:Cfg} (h:Right c) (e:Int × Int) (he:e ∈ c.edges):c.le e.1 e.2=true:=by
 obtain⟨_,_,_,hE,_,_,_⟩:=labels_of h.labels
 obtain⟨h1,h2,h3,h4⟩:=hE e he
 refine (leB_iff c.edges c.n hE e.1 e.2 (by omega)).2 ?_
 exact (PathE.refl _ _).snoc he
theorem path_first {E:List (Int × Int)} {a:Nat}:∀ (k:Nat) {b:Nat},pathN E a (k+1) b→∃ e,e ∈ E∧e.1.toNat=a∧PathE E e.2.toNat b
 | 0,_,⟨e,he,h,hb⟩=>⟨e,he,Eq.symm h,by rw [← hb];exact PathE.refl _ _⟩
 | k+1,_,⟨e,he,h,hb⟩=>by
  obtain⟨f,hf,h1,h2⟩:=path_first k h
  exact⟨f,hf,h1,by rw [← hb];exact h2.snoc he⟩
def stepB (c:Cfg) (a b:Int) (E:List (Int × Int)):Bool:=E.any fun e=>(e.1 == a) && c.le e.2 b
theorem step_true {c:Cfg} (h:Right c) {a b:Nat} (ha:a<c.n) (hne:a≠b) (hle:c.le a b=true):stepB c a b c.edges=true:=by
 obtain⟨_,_,_,hE,_,_,_⟩:=labels_of h.labels
 obtain⟨k,hk⟩:=(le_path h a b ha).1 hle
 cases k with
 | zero=>exact absurd hk hne
 | succ k=>
  obtain⟨e,he,h1,h2⟩:=path_first k hk
  obtain⟨g1,g2,g3,g4⟩:=hE e he
  refine List.any_eq_true.2 ⟨e,he,?_⟩
  have e1:e.1=a:=by omega
  have:c.le e.2 b=true:=(leB_iff c.edges c.n hE e.2 b (by omega)).2 (by simpa using h2)
  simp [e1,this]
theorem stepB_snoc (c:Cfg) (a b:Int) (E:List (Int × Int)) (i:Nat) (e:Int × Int) (h:E[i]?=some e):stepB c a b (E.take (i+1))=(stepB c a b (E.take i) || ((e.1 == a) && c.le e.2 b)):=by
 rw [List.take_add_one,h];simp [stepB]
theorem stepB_mem (c:Cfg) (a b:Int) (E:List (Int × Int)) (i:Nat) (e:Int × Int) (h:E[i]?=some e) (h1:((e.1 == a) && c.le e.2 b)=true):stepB c a b E=true:=
 List.any_eq_true.2 ⟨e,List.mem_of_getElem? h,h1⟩
end Go.Proofs.Ytgigkiocdiffjab
namespace Go.Proofs.Ytgigkiocdiffjab
open Go.RowKit Veil
theorem filter_lt {l:List Nat} {p q:Nat→Bool} (hpq:∀ x,x ∈ l→p x=true→q x=true) {x:Nat} (hx:x ∈ l) (hq:q x=true) (hp:p x=false):(l.filter p).length<(l.filter q).length:=by
 induction l with
 | nil=>cases hx
 | cons y l ih=>
  have hle:(l.filter p).length≤(l.filter q).length:=by
   clear ih hx
   induction l with
   | nil=>simp
   | cons z l ih2=>
    have ih3:=ih2 (fun x hx=>hpq x (by
     simp only [List.mem_cons] at hx ⊢
     rcases hx with hx|hx
     ·exact Or.inl hx
     ·exact Or.inr (Or.inr hx)))
    cases hz:p z
    ·cases hz2:q z <;> simp [hz,hz2] <;> omega
    ·have:=hpq z (by simp) hz
     simp [hz,this];omega
  simp only [List.mem_cons] at hx
  rcases hx with rfl|hx
  ·simp [hp,hq];omega
  ·have:=ih (fun z hz=>hpq z (List.mem_cons_of_mem _ hz)) hx
   cases hz:p y
   ·cases hz2:q y <;> simp [hz,hz2] <;> omega
   ·have h2:=hpq y (by simp) hz
    simp [hz,h2];omega
def rankC (c:Cfg) (a:Nat):Nat:=((List.range c.n).filter fun x:Nat=>c.le a x).length
theorem rank_lt {c:Cfg} (h:Right c) {a y:Nat} (ha:a<c.n) (hy:y<c.n) (hne:a≠y) (hle:c.le a y=true):rankC c y<rankC c a:=by
 refine filter_lt (x:=a) (fun x hx h1=>?_) (by simpa using ha) (le_refl' h.labels a ha) ?_
 ·exact le_trans' h ha hy hle h1
 ·have:=le_anti h ha hy hne
  rw [hle] at this
  simpa using this
theorem edge_ne {c:Cfg} (h:labelsB c=true) {e:Int × Int} (he:e ∈ c.edges):e.1≠e.2:=by
 unfold labelsB at h
 simp only [Bool.and_eq_true,List.all_eq_true] at h
 have:=h.2 e he
 unfold edgeOk at this
 simp only [Bool.and_eq_true,Bool.not_eq_true',beq_eq_false_iff_ne] at this
 exact this.2
theorem kbelow_step (c:Cfg) (v:CfgV) (a b:Nat) (w:World) (hl:labelsB c=true) (hat:CfgAt w c v) (hq:∀ (y:Nat) (w':World),y<c.n→((a:Int),(y:Int)) ∈ c.edges→Below w.heap.size w w'→Calls Try.prog 20 #[.agg (cfgCells c v),.int .i64 y,.int .i64 b] w' fun e w''=>e=.returned (.bool (c.le y b))∧Below w'.heap.size w' w'') (hne:a≠b) :
  Calls Try.prog 20 #[.agg (cfgCells c v),.int .i64 a,.int .i64 b] w fun e w'=>e=.returned (.bool (stepB c a b c.edges))∧Below w.heap.size w w':=by
 obtain⟨_,_,hE30,hE,hn,hn6,hn1⟩:=labels_of hl
 have hedge:=hat.edges
 have HQ:=hide hq
 clear hat hl hq
 obtain⟨eb,eo,hea,hblt,hcells⟩:∃ eb eo,(c.edges=[]∨v.ea=some ⟨eb,eo,none⟩)∧(c.edges=[]∨eb<w.heap.size)∧∀ i p,c.edges[i]?=some p→w.cell? ⟨eb,eo+i*2,none⟩=some (xE p)∧w.cell? ⟨eb,eo+i*2+1,none⟩=some (yE p):=by
  rcases hedge with h|⟨b,off,h,h1,h2⟩
  ·exact⟨0,0,Or.inl h,Or.inl h,fun i p hp=>by rw [show c.edges=[] from h] at hp;simp at hp⟩
  ·exact⟨b,off,Or.inr h,Or.inr h1,h2⟩
 clear hedge
 have HE:=hide hE
 have HC:=hide hcells
 have HA:=hide hea
 have HBL:=hide hblt
 have HB0:=hide (below_box w (.cells (cfgCells c v) 26))
 have HX0:=hide (box_new w c v)
 clear hcells hblt hea hE
 unfold cfgCells at *
 have hne':((a:Int) == (b:Int))=false:=by simp;omega
 clear hne
 go_enter Try.func20,Try.ntmps20
 go_wp2
 go_loopw [7] (fun i wr=>∃ k:Nat,k≤c.edges.length∧i=.int .i64 k∧stepB c a b (c.edges.take k)=false∧BoxAt wr w.heap.size c v∧Below w.heap.size w wr) (fun i _=>c.edges.length-(intOf i).toNat)
 case atStart=>exact⟨0,Nat.zero_le _,rfl,rfl,HX0.out,HB0.out⟩
 case round=>
  clear HB0 HX0
  obtain⟨wo,rfl⟩:∃ x,x=wr:=⟨_,rfl⟩
  obtain⟨k,hk,rfl,hno,hbox,hbel⟩:=hrel
  obtain⟨q0,q1,q2,q3⟩:=hbox.cells
  have HNO:=hide hno
  have HB:=hide hbox
  clear hno hbox
  by_cases hlt:k<c.edges.length
  ·have hEne:c.edges≠[]:=fun e=>by rw [e] at hlt;simp at hlt
   have hea:v.ea=some ⟨eb,eo,none⟩:=HA.out.resolve_left hEne
   have hvea:=hide hea
   have hbl:eb<w.heap.size:=HBL.out.resolve_left hEne
   rw [hea] at q1
   have hej:c.edges[k]?=some c.edges[k]:=List.getElem?_eq_getElem hlt
   obtain⟨c1,c2⟩:=HC.out k _ hej
   have hin:=HE.out _ (List.getElem_mem hlt)
   have HMEM0:=hide (List.getElem_mem hlt)
   have HS:=hide (stepB_snoc c a b c.edges k _ hej)
   have HM:=hide (stepB_mem c a b c.edges k _ hej)
   generalize c.edges[k]=e at *
   obtain⟨e1,e2⟩:=e
   simp only at hin
   obtain⟨h1,h2,h3,h4⟩:=hin
   obtain⟨x,rfl⟩:=Int.eq_ofNat_of_zero_le h1
   obtain⟨y,rfl⟩:=Int.eq_ofNat_of_zero_le h3
   have d1:wo.cell? ⟨eb,eo+k*2,none⟩=some (.int .i64 x):=(hbel.cell (p:=⟨eb,eo+k*2,none⟩) hbl).trans c1
   have d2:wo.cell? ⟨eb,eo+k*2+1,none⟩=some (.int .i64 y):=(hbel.cell (p:=⟨eb,eo+k*2+1,none⟩) hbl).trans c2
   have hy:y<c.n:=by omega
   clear hej c1 c2 hea h1 h2 h3 h4 hEne
   by_cases hxa:x=a
   ·subst hxa
    have HMEM:=HMEM0
    rw [HNO.out] at HS
    have hew:eb<wo.heap.size:=Nat.lt_of_lt_of_le hbl hbel.size
    have hgw:=HB.out.lt
    have hili:(k:Int)<(c.edges.length:Int):=by omega
    have HAT:=hide (HQ.out y _ hy HMEM.out hbel.drew)
    unfold cfgCells at HAT
    rw [hvea.out] at HAT
    go_wp2_with fail
    first|(go_region_held (fun w'=>w'.cell? ⟨w.heap.size,0,none⟩=some (.int .i64 c.labels)∧w'.cell? ⟨w.heap.size,1,none⟩=some (.slice (some ⟨eb,eo,none⟩) c.edges.length v.ec)∧w'.cell? ⟨w.heap.size,2,none⟩=some (.slice v.ra c.rules.length v.rc)∧w'.cell? ⟨w.heap.size,3,none⟩=some (.slice v.ga c.grants.length v.gc)∧w'.cell? ⟨eb,eo+k*2+1,none⟩=some (.int .i64 y)) (go_keep) (first|(go_at_call 20;refine (HAT.out).mono ?_;rintro e w2 ⟨rfl,hb2⟩;have s0:=(hb2.cell (p:=⟨w.heap.size,0,none⟩) hgw).trans q0;have s1:=(hb2.cell (p:=⟨w.heap.size,1,none⟩) hgw).trans q1;have s2:=(hb2.cell (p:=⟨w.heap.size,2,none⟩) hgw).trans q2;have s3:=(hb2.cell (p:=⟨w.heap.size,3,none⟩) hgw).trans q3;have s5:=(hb2.cell (p:=⟨eb,eo+k*2+1,none⟩) hew).trans d2)))|fail "no"
    have HB2:=hide (show BoxAt w2 w.heap.size c v from Below.row hb2 HB.out HB.out.lt)
    have hbel2:=hbel.drew.trans (hb2.mono hbel.drew.size)
    clear hb2 q0 q1 q2 q3 d1 d2
    cases hle:c.le y b
    ·have HL:=hide hle
     clear hle
     go_wp2
     go_roundw
     case rel=>exact⟨k+1,by omega,by go_num,by rw [HS.out];simp [HL.out],HB2.out,hbel2⟩
     case measure=>simp [intOf];omega
    ·have HL:=hide hle
     clear hle
     go_wp2
     go_ret
     exact⟨ret_bool (HM.out (by simp [HL.out])).symm,hbel2⟩
   ·have hxa':((x:Int) == (a:Int))=false:=by simp;omega
    have HX:=hide hxa'
    go_wp2
    go_roundw
    case rel=>exact⟨k+1,by omega,by go_num,by rw [HS.out,HNO.out];simp [HX.out],HB.out,hbel⟩
    case measure=>simp [intOf];omega
  ·have:k=c.edges.length:=by omega
   subst this
   go_wp2
   go_ret
   exact⟨ret_bool (by rw [← HNO.out,List.take_length]),hbel⟩
theorem kbelow_self (c:Cfg) (v:CfgV) (a:Nat) (w:World):Calls Try.prog 20 #[.agg (cfgCells c v),.int .i64 a,.int .i64 a] w fun e w'=>e=.returned (.bool true)∧Below w.heap.size w w':=by
 have HB0:=hide (below_box w (.cells (cfgCells c v) 26))
 unfold cfgCells at *
 go_enter Try.func20,Try.ntmps20
 go_wp2
 go_ret
 exact⟨rfl,HB0.out⟩
theorem kbelow_any (c:Cfg) (v:CfgV) (hr:Right c):∀ (r a b:Nat) (w:World),rankC c a≤r→CfgAt w c v→a<c.n→b<c.n →
  Calls Try.prog 20 #[.agg (cfgCells c v),.int .i64 a,.int .i64 b] w fun e w'=>e=.returned (.bool (c.le a b))∧Below w.heap.size w w':=by
 intro r
 induction r with
 | zero=>
  intro a b w h0 _ ha _
  exfalso
  have:0<rankC c a:=by
   unfold rankC
   exact List.length_pos_of_mem (List.mem_filter.2 ⟨by simpa using ha,le_refl' hr.labels a ha⟩)
  omega
 | succ r ih=>
  intro a b w hrk hat ha hb
  by_cases hab:a=b
  ·subst hab
   rw [le_refl' hr.labels a ha]
   exact kbelow_self c v a w
  ·have hs:stepB c a b c.edges=c.le a b:=by
    cases hle:c.le a b
    ·cases hst:stepB c a b c.edges
     ·rfl
     ·exfalso
      unfold stepB at hst
      simp only [List.any_eq_true,Bool.and_eq_true,beq_iff_eq] at hst
      obtain⟨e,he,h1,h2⟩:=hst
      obtain⟨_,_,_,hE,_,_,_⟩:=labels_of hr.labels
      obtain⟨q1,q2,q3,q4⟩:=hE e he
      have h3:=le_edge hr e he
      obtain⟨x,hx⟩:=Int.eq_ofNat_of_zero_le q3
      rw [h1,hx] at h3
      rw [hx] at h2
      have:=le_trans' hr ha (by omega) h3 h2
      rw [hle] at this;cases this
    ·exact step_true hr ha hab hle
   rw [← hs]
   refine kbelow_step c v a b w hr.labels hat (fun y w' hy he hb'=>ih y b w' ?_ (hat.below hb') hy hb) hab
   have hne:a≠y:=fun e=>edge_ne hr.labels he (by rw [e])
   have:=rank_lt hr ha hy hne (le_edge hr _ he)
   omega
end Go.Proofs.Ytgigkiocdiffjab
