import Derived.Test.YtgigkiocdiffjaaGreatE05
import Derived.Test.YtgigkiocdiffjaaGreatE06
set_option maxRecDepth 100000
set_option maxHeartbeats 16000000
namespace Go.Proofs.YtgigkiocdiffjaaGreat
open Go.RowKit Veil
def tT (c:Cfg):Nat→Nat→Bool:=tabF c.edges c.n c.n
theorem T_le {c:Cfg} (hl:labelsB c=true) (a b:Nat) (ha:a<c.n) (hb:b<c.n):(tT c) a b=c.le a b:=by
 obtain⟨_,_,_,hE,_,_,_⟩:=labels_of hl
 have:=leM_leB c.edges c.n hE (a:Int) (b:Int) (by simpa using ha)
 unfold Cfg.le
 rw [← this]
 simp [tT,tabF,leM,ha,hb]
theorem le_refl' {c:Cfg} (hl:labelsB c=true) (a:Nat) (ha:a<c.n):c.le a a=true:=by
 obtain⟨_,_,_,hE,_,_,_⟩:=labels_of hl
 exact (leB_iff c.edges c.n hE a a (by simpa using ha)).2 (PathE.refl _ _)
theorem okL_lt {n a:Nat} (h:a<n):okL n a=true:=by simp [okL];omega
theorem leO_nat (n:Nat) (f:Nat→Nat→Bool) (a b:Nat) (ha:a<n) (hb:b<n):leO n f a b=f a b:=by simp [leO,okL_lt ha,okL_lt hb]
theorem leO_le {c:Cfg} (hl:labelsB c=true) (a b:Nat) (ha:a<c.n) (hb:b<c.n):leO c.n (tT c) a b=c.le a b:=by rw [leO_nat _ _ _ _ ha hb,T_le hl _ _ ha hb]
def tT' (c:Cfg):Nat→Nat→Bool:=turnF c.n (tT c) c.n 0
theorem leO_ge {c:Cfg} (hl:labelsB c=true) (a b:Nat) (ha:a<c.n) (hb:b<c.n):leO c.n (tT' c) a b=c.le b a:=by
 rw [leO_nat _ _ _ _ ha hb,← T_le hl _ _ hb ha]
 simp [tT',turnF,ha,hb]
theorem firstN_congr {p q:Nat→Bool} {n:Nat} (h:∀ j,j<n→p j=q j):firstN p n=firstN q n:=by
 rcases firstN_cases q n with⟨j,hj,h1,h2,h3⟩|⟨h1,h2⟩
 ·rw [h3];exact firstN_yes hj (by rw [h j hj];exact h1) fun i hi=>by rw [h i (by omega)];exact h2 i hi
 ·rw [h2];exact firstN_no fun i hi=>by rw [h i hi];exact h1 i hi
theorem all_range_congr {n:Nat} {p q:Nat→Bool} (h:∀ j,j<n→p j=q j):(List.range n).all p=(List.range n).all q:=by
 rw [Bool.eq_iff_iff,List.all_eq_true,List.all_eq_true]
 constructor
 ·intro hp j hj;rw [← h j (by simpa using hj)];exact hp j hj
 ·intro hp j hj;rw [h j (by simpa using hj)];exact hp j hj
theorem leastO_join {c:Cfg} (hl:labelsB c=true) (a b:Nat) (ha:a<c.n) (hb:b<c.n):leastO c.n (tT c) a b=c.join a b:=by
 unfold leastO Cfg.join
 apply firstN_congr
 intro j hj
 unfold abvO blwO Cfg.isJoin Cfg.up
 rw [leO_le hl _ _ ha hj,leO_le hl _ _ hb hj]
 congr 1
 apply all_range_congr
 intro k hk
 unfold abvO
 rw [leO_le hl _ _ ha hk,leO_le hl _ _ hb hk,leO_le hl _ _ hj hk]
theorem leastO_meet {c:Cfg} (hl:labelsB c=true) (a b:Nat) (ha:a<c.n) (hb:b<c.n):leastO c.n (tT' c) a b=c.meet a b:=by
 unfold leastO Cfg.meet
 apply firstN_congr
 intro j hj
 unfold abvO blwO Cfg.isMeet Cfg.down
 rw [leO_ge hl _ _ ha hj,leO_ge hl _ _ hb hj]
 congr 1
 apply all_range_congr
 intro k hk
 unfold abvO
 rw [leO_ge hl _ _ ha hk,leO_ge hl _ _ hb hk,leO_ge hl _ _ hj hk]
theorem circle_iff {c:Cfg} (hl:labelsB c=true):circleO c.n (tT c) ↔ c.circle:=by
 constructor
 ·rintro ⟨a,b,ha,hb,h1,h2⟩
  exact⟨a,b,ha,by omega,by omega,by rw [← T_le hl _ _ ha (by omega)];exact h1,by rw [← T_le hl _ _ (by omega) ha];exact h2⟩
 ·rintro ⟨a,b,ha,hb,hne,h1,h2⟩
  by_cases h:b<a
  ·exact⟨a,b,ha,h,by rw [T_le hl _ _ ha hb];exact h1,by rw [T_le hl _ _ hb ha];exact h2⟩
  ·exact⟨b,a,hb,by omega,by rw [T_le hl _ _ hb ha];exact h2,by rw [T_le hl _ _ ha hb];exact h1⟩
theorem join_comm (c:Cfg) (a b:Int):c.join a b=c.join b a:=by
 unfold Cfg.join
 apply firstN_congr
 intro j _
 have:∀ k:Int,c.up a b k=c.up b a k:=fun k=>by unfold Cfg.up;rw [Bool.and_comm]
 unfold Cfg.isJoin
 simp only [this]
theorem meet_comm (c:Cfg) (a b:Int):c.meet a b=c.meet b a:=by
 unfold Cfg.meet
 apply firstN_congr
 intro j _
 have:∀ k:Int,c.down a b k=c.down b a k:=fun k=>by unfold Cfg.down;rw [Bool.and_comm]
 unfold Cfg.isMeet
 simp only [this]
theorem firstN_pos {p:Nat→Bool} {n j:Nat} (hj:j<n) (h:p j=true):0≤firstN p n:=by
 rcases firstN_cases p n with⟨i,_,_,_,h3⟩|⟨h1,_⟩
 ·rw [h3];omega
 ·rw [h1 j hj] at h;simp at h
theorem join_self {c:Cfg} (hl:labelsB c=true) (a:Nat) (ha:a<c.n):0≤c.join a a:=by
 refine firstN_pos ha ?_
 unfold Cfg.isJoin Cfg.up
 rw [le_refl' hl a ha]
 simp only [Bool.and_self,Bool.true_and,List.all_eq_true]
 intro k _
 cases c.le a k <;> rfl
theorem meet_self {c:Cfg} (hl:labelsB c=true) (a:Nat) (ha:a<c.n):0≤c.meet a a:=by
 refine firstN_pos ha ?_
 unfold Cfg.isMeet Cfg.down
 rw [le_refl' hl a ha]
 simp only [Bool.and_self,Bool.true_and,List.all_eq_true]
 intro k _
 cases c.le k a <;> rfl
theorem lat_iff {c:Cfg} (hl:labelsB c=true):latO c.n (tT c) ↔ ¬ c.noLat:=by
 constructor
 ·rintro ⟨h1,h2⟩ ⟨a,b,ha,hb,h⟩
  have hj:0≤c.join a b:=by
   rcases Nat.lt_trichotomy b a with h'|rfl|h'
   ·rw [← leastO_join hl _ _ ha hb];exact h1 a b ha h'
   ·exact join_self hl _ ha
   ·rw [join_comm,← leastO_join hl _ _ hb ha];exact h1 b a hb h'
  have hm:0≤c.meet a b:=by
   rcases Nat.lt_trichotomy b a with h'|rfl|h'
   ·rw [← leastO_meet hl _ _ ha hb];exact h2 a b ha h'
   ·exact meet_self hl _ ha
   ·rw [meet_comm,← leastO_meet hl _ _ hb ha];exact h2 b a hb h'
  omega
 ·intro h
  refine⟨fun a b ha hb=>?_,fun a b ha hb=>?_⟩
  ·rw [leastO_join hl _ _ ha (by omega)]
   exact Int.not_lt.1 fun h'=>h ⟨a,b,ha,by omega,Or.inl h'⟩
  ·have:=leastO_meet hl a b ha (by omega)
   unfold tT' at this
   rw [this]
   exact Int.not_lt.1 fun h'=>h ⟨a,b,ha,by omega,Or.inr h'⟩
theorem grants_iff {c:Cfg} (hl:labelsB c=true):grantsO c.n (tT c) c.grants=grantsB c:=by
 unfold grantsO grantsB
 congr 2
 obtain⟨_,_,_,_,hn,_,_⟩:=labels_of hl
 funext g
 unfold grantO grantOk
 by_cases h1:okL c.labels g.1=true
 ·by_cases h2:okL c.labels g.2=true
  ·rw [← hn] at h1 h2
   obtain⟨x,hx,hx'⟩:=okL_cast h1
   obtain⟨y,hy,hy'⟩:=okL_cast h2
   rw [hx,hy,leO_le hl _ _ hy' hx',← hn,okL_lt hx',okL_lt hy']
   rw [show ((y:Int) == (x:Int))=((x:Int) == (y:Int)) from BEq.comm]
   simp
  ·have h2':okL c.labels g.2=false:=by simpa using h2
   simp [leO,hn,h2']
 ·have h1':okL c.labels g.1=false:=by simpa using h1
  simp [leO,hn,h1']
end Go.Proofs.YtgigkiocdiffjaaGreat
namespace Go.Proofs.YtgigkiocdiffjaaGreat
open Go.RowKit Veil
theorem NewIs.right {c:Cfg} {L:Int} {f:Nat→Nat→Bool} (h:NewIs c 0 L f):labelsB c=true∧¬ c.circle∧¬ c.noLat∧L=c.n∧f=tT c:=by
 cases hl:labelsB c with
 | false=>have:=h.one hl;omega
 | true=>
  by_cases h1:c.circle
  ·have:=h.two hl ((circle_iff hl).2 h1);omega
  ·have h1':¬ circleO c.n (tT c):=fun h'=>h1 ((circle_iff hl).1 h')
   by_cases h2:c.noLat
   ·have:=h.three hl h1' (fun h'=>(lat_iff hl).1 h' h2);omega
   ·obtain⟨_,h3,h4⟩:=h.ok hl h1' ((lat_iff hl).2 h2)
    exact⟨rfl,h1,h2,h3,h4⟩
theorem NewIs.wrong {c:Cfg} {code L:Int} {f:Nat→Nat→Bool} (h:NewIs c code L f) (hne:code≠0):CheckIs c code:=by
 cases hl:labelsB c with
 | false=>exact⟨fun _=>h.one hl,fun h'=>by simp [hl] at h',fun h'=>by simp [hl] at h',fun h'=>by simp [hl] at h',fun h'=>by simp [hl] at h',fun h'=>by simp [hl] at h'⟩
 | true=>
  by_cases h1:c.circle
  ·have:=h.two hl ((circle_iff hl).2 h1)
   exact⟨fun h'=>by simp [hl] at h',fun _ _=>this,fun _ h'=>absurd h1 h',fun _ h'=>absurd h1 h',fun _ h'=>absurd h1 h',fun _ h'=>absurd h1 h'⟩
  ·have h1':¬ circleO c.n (tT c):=fun h'=>h1 ((circle_iff hl).1 h')
   by_cases h2:c.noLat
   ·have:=h.three hl h1' (fun h'=>(lat_iff hl).1 h' h2)
    exact⟨fun h'=>by simp [hl] at h',fun _ h'=>absurd h' h1,fun _ _ _=>this,fun _ _ h'=>absurd h2 h',fun _ _ h'=>absurd h2 h',fun _ _ h'=>absurd h2 h'⟩
   ·obtain⟨h3,_,_⟩:=h.ok hl h1' ((lat_iff hl).2 h2)
    exact absurd h3 hne
theorem cCheck_any (c:Cfg) (v:CfgV) (w:World) (hok:CfgOk c) (hat:CfgAt w c v) (hcap:c.rules.length≤v.rc) :
  Calls Tryz.prog 47 #[.agg (cfgCells c v)] w fun e w'=>∃ code L f,e=.returned (.tuple #[.agg (ordC L f),.int .i64 code])∧(CheckIs c code∧(code=0→L=c.n∧f=tT c))∧Below w.heap.size w w':=by
 have k1:c.edges.length<2 ^ 57:=Nat.lt_of_le_of_lt hok.edges (by decide)
 have k2:c.rules.length<2 ^ 57:=Nat.lt_of_le_of_lt hok.rules (by decide)
 have k3:c.grants.length<2 ^ 57:=Nat.lt_of_le_of_lt hok.grants (by decide)
 have HNEW:=hide (fun w' (hb:Below w.heap.size w w')=>new_any c v.ea v.ec w' k1 (hat.edges.below hb))
 have HRUL:=hide (fun f w' (hb:Below w.heap.size w w')=>areRules_any c f v.ra v.rc w' k2 hcap hok.texts (hat.rules.below hb))
 have HGRA:=hide (fun (hn:c.n≤6) w' (hb:Below w.heap.size w w')=>areGrants_any c.n (tT c) c.grants v.ga v.gc w' hn k3 (hat.grants.below hb))
 have HB0:=hide (below_box w (.cells (cfgCells c v) 31))
 have HX0:=hide (box_new w c v)
 have HB1:=hide ((HB0.out).alloc (by simp) (.cells (ordC 0 noF) 105))
 have HX1:Hid (BoxAt ((w.alloc (.cells (cfgCells c v) 31)).alloc (.cells (ordC 0 noF) 105)) w.heap.size c v):=HX0.out.below (below_box _ _) (by simp)
 have HN1:=hide (heap_alloc2_new w (.cells (cfgCells c v) 31) (.cells (ordC 0 noF) 105))
 clear hok hat hcap k1 k2 k3
 unfold cfgCells at *
 go_enter Tryz.func47,Tryz.ntmps47
 go_wp2_with (refine wpList_alloc_ord rfl rfl ?_)
 refine (HNEW.out _ HB1.out).mono ?_
 rintro e w1 ⟨code,L,f,rfl,hnew,hb1⟩
 have hbel1:=HB1.out.trans (hb1.mono (by simp;omega))
 have HR1:Hid (w1.heap[w.heap.size+1]?=some (.cells (ordC 0 noF) 105 (0,0))):=Below.row hb1 HN1.out (lt_of_row HN1.out)
 have HX2:=hide (HX1.out.below hb1 HX1.out.lt)
 have HNEW2:=hide hnew
 have HN:=hide (Go.heap_alloc_new w1 (.cells (ordC 0 noF) 105))
 have hlt1:=lt_of_row HR1.out
 have i2:rowIs (w1.alloc (.cells (ordC 0 noF) 105)) w1.heap.size 37:=⟨_,_,HN.out,ordC_size _ _⟩
 have HO3:Hid (OrdAt ((w1.alloc (.cells (ordC 0 noF) 105)).setRow w1.heap.size (ordC L f)) w1.heap.size L f):=setRow_heap _ _ _ (ordC L f) _ _ HN.out
 have HR3:Hid (((w1.alloc (.cells (ordC 0 noF) 105)).setRow w1.heap.size (ordC L f)).heap[w.heap.size+1]?=some (.cells (ordC 0 noF) 105 (0,0))):=(setRow_other _ _ _ _ (Nat.ne_of_lt hlt1)).trans (row_alloc' HR1.out)
 have HB3:Hid (Below w1.heap.size w1 ((w1.alloc (.cells (ordC 0 noF) 105)).setRow w1.heap.size (ordC L f))):=below_setRow (below_box _ _) (Nat.le_refl _) _
 have HX3:=hide (HX2.out.below HB3.out HX2.out.lt)
 have hbel3:=hbel1.trans (HB3.out.mono hbel1.size)
 have i3:=HO3.out.is
 have a3:=HO3.out.at
 have j3:rowIs ((w1.alloc (.cells (ordC 0 noF) 105)).setRow w1.heap.size (ordC L f)) (w.heap.size+1) 37:=⟨_,_,HR3.out,ordC_size _ _⟩
 obtain⟨q0,q1,q2,q3⟩:=HX3.out.cells
 clear hb1 HNEW HX0 HX1 HX2 HB0 HB1 HN1 HR1 hnew HB3
 cases hcode:(code == 0)
 ·have hne:Hid (code≠0):=(show code≠0 by simpa using hcode)
  have HW:=hide (HNEW2.out.wrong hne.out)
  go_wp2_with (first|(refine wpList_alloc_ord rfl rfl ?_)|(refine wpList_build_zero rfl rfl ?_))
  exact bodyPost_ret (results_cell_tmp Tryz.results47 _ _ (w.heap.size+1) _ (ordC 0 noF) (0,0) _ (by simp) (setRow_heap _ _ _ _ _ _ HR3.out) Tryz.underlying105 rfl (by rw [Tryz.sizeOrder,ordC_size])) rfl ⟨code,0,noF,rfl,⟨HW.out,fun h=>absurd h hne.out⟩,below_setRow hbel3 (by omega) _⟩
 obtain rfl:code=0:=by simpa using hcode
 obtain⟨hl,hnc,hnl,hL,hf⟩:=HNEW2.out.right
 obtain⟨_,_,_,_,hn,hn6,_⟩:=labels_of hl
 have HRUL2:=hide (HRUL.out f)
 rw [← hn,← hL] at HRUL2
 have HGRA2:=hide (HGRA.out hn6)
 rw [grants_iff hl,← hL,← hf] at HGRA2
 have HLF:=hide (And.intro hL hf)
 have HP:=hide (And.intro hl (And.intro hnc hnl))
 clear HRUL HGRA hl hnc hnl HNEW2 hL hf hn hn6 hcode
 go_wp2_with (refine wpList_alloc_ord rfl rfl ?_)
 refine (HRUL2.out _ hbel3).mono ?_
 rintro e w4 ⟨rfl,hb4⟩
 have hbel4:=hbel3.trans (hb4.mono hbel3.size)
 have HR4:Hid (w4.heap[w.heap.size+1]?=some (.cells (ordC 0 noF) 105 (0,0))):=Below.row hb4 HR3.out (lt_of_row HR3.out)
 have HO4:=hide (HO3.out.below hb4 HO3.out.lt)
 have HX4:=hide (HX3.out.below hb4 HX3.out.lt)
 have i4:=HO4.out.is
 have a4:=HO4.out.at
 have j4:rowIs w4 (w.heap.size+1) 37:=⟨_,_,HR4.out,ordC_size _ _⟩
 clear hb4 i3 a3 j3 i2 q0 q1 q2 q3 HN HO3 HR3 HX3
 obtain⟨q0,q1,q2,q3⟩:=HX4.out.cells
 cases g1:rulesB c
 ·have G1:=hide g1
  clear g1
  go_wp2_with (refine wpList_build_zero rfl rfl ?_)
  exact bodyPost_ret (results_cell_tmp Tryz.results47 _ _ (w.heap.size+1) _ (ordC 0 noF) (0,0) _ (by simp) (setRow_heap _ _ _ _ _ _ HR4.out) Tryz.underlying105 rfl (by rw [Tryz.sizeOrder,ordC_size])) rfl ⟨4,0,noF,rfl,⟨⟨fun h=>by simp [HP.out.1] at h,fun _ h=>absurd h HP.out.2.1,fun _ _ h=>absurd h HP.out.2.2,fun _ _ _ _=>rfl,fun _ _ _ h=>by simp [G1.out] at h,fun _ _ _ h=>by simp [G1.out] at h⟩,fun h=>by simp at h⟩,below_setRow hbel4 (by omega) _⟩
 have G1:=hide g1
 clear g1
 go_wp2_with fail
 refine (HGRA2.out _ hbel4).mono ?_
 rintro e w5 ⟨rfl,hb5⟩
 have hbel5:=hbel4.trans (hb5.mono hbel4.size)
 have HR5:Hid (w5.heap[w.heap.size+1]?=some (.cells (ordC 0 noF) 105 (0,0))):=Below.row hb5 HR4.out (lt_of_row HR4.out)
 have HO5:=hide (HO4.out.below hb5 HO4.out.lt)
 have i5:=HO5.out.is
 have a5:=HO5.out.at
 have j5:rowIs w5 (w.heap.size+1) 37:=⟨_,_,HR5.out,ordC_size _ _⟩
 clear hb5 i4 a4 j4 q0 q1 q2 q3
 cases g2:grantsB c
 ·have G2:=hide g2
  clear g2
  go_wp2_with (refine wpList_build_zero rfl rfl ?_)
  exact bodyPost_ret (results_cell_tmp Tryz.results47 _ _ (w.heap.size+1) _ (ordC 0 noF) (0,0) _ (by simp) (setRow_heap _ _ _ _ _ _ HR5.out) Tryz.underlying105 rfl (by rw [Tryz.sizeOrder,ordC_size])) rfl ⟨5,0,noF,rfl,⟨⟨fun h=>by simp [HP.out.1] at h,fun _ h=>absurd h HP.out.2.1,fun _ _ h=>absurd h HP.out.2.2,fun _ _ _ h=>by simp [G1.out] at h,fun _ _ _ _ _=>rfl,fun _ _ _ _ h=>by simp [G2.out] at h⟩,fun h=>by simp at h⟩,below_setRow hbel5 (by omega) _⟩
 ·have G2:=hide g2
  clear g2
  go_wp2
  exact bodyPost_ret (results_cell_tmp Tryz.results47 _ _ (w.heap.size+1) _ (ordC L f) (0,0) _ (by simp) (setRow_heap _ _ _ _ _ _ HR5.out) Tryz.underlying105 rfl (by rw [Tryz.sizeOrder,ordC_size])) rfl ⟨0,L,f,rfl,⟨⟨fun h=>by simp [HP.out.1] at h,fun _ h=>absurd h HP.out.2.1,fun _ _ h=>absurd h HP.out.2.2,fun _ _ _ h=>by simp [G1.out] at h,fun _ _ _ _ h=>by simp [G2.out] at h,fun _ _ _ _ _=>rfl⟩,fun _=>HLF.out⟩,below_setRow hbel5 (by omega) _⟩
end Go.Proofs.YtgigkiocdiffjaaGreat
namespace Go.Proofs.YtgigkiocdiffjaaGreat
open Go.RowKit Veil
theorem oJoin_any (n:Nat) (f:Nat→Nat→Bool) (a b:Int) (w:World) (hn:n≤6) :
  Calls Tryz.prog 130 #[.agg (ordC n f),.int .i64 a,.int .i64 b] w fun e w'=>e=.returned (.int .i64 (posI (leastO n f a b)))∧Below w.heap.size w w':=by
 have i0:=(ord_new w n f).is
 have a0:=(ord_new w n f).at
 have hb0:=below_box w (.cells (ordC n f) 105)
 go_enter Tryz.func130,Tryz.ntmps130
 go_wp2_with fail
 refine (least_any n f a b _ hn).mono ?_
 rintro e w1 ⟨rfl,hb1⟩
 have hbel1:=hb0.trans (hb1.mono (by simp))
 clear hb1 i0 a0
 go_wp2
 go_ret
 exact⟨rfl,hbel1⟩
theorem oMeet_any (n:Nat) (f:Nat→Nat→Bool) (a b:Int) (w:World) (hn:n≤6) :
  Calls Tryz.prog 131 #[.agg (ordC n f),.int .i64 a,.int .i64 b] w fun e w'=>e=.returned (.int .i64 (posI (leastO n (turnF n f n 0) a b)))∧Below w.heap.size w w':=by
 have i0:=(ord_new w n f).is
 have a0:=(ord_new w n f).at
 have hb0:=below_box w (.cells (ordC n f) 105)
 go_enter Tryz.func131,Tryz.ntmps131
 go_wp2_with fail
 refine (turn_any n f _ hn).mono ?_
 rintro e w1 ⟨rfl,hb1⟩
 have hbel1:=hb0.trans (hb1.mono (by simp))
 have HQ:=hide (fun w'=>oJoin_any n (turnF n f n 0) a b w' hn)
 generalize hT:turnF n f n 0=T at *
 have HN:=hide (Go.heap_alloc_new w1 (.cells (ordC 0 noF) 105))
 have i2:rowIs (w1.alloc (.cells (ordC 0 noF) 105)) w1.heap.size 37:=⟨_,_,HN.out,ordC_size _ _⟩
 have HO3:Hid (OrdAt ((w1.alloc (.cells (ordC 0 noF) 105)).setRow w1.heap.size (ordC n T)) w1.heap.size n T):=setRow_heap _ _ _ (ordC n T) _ _ HN.out
 have i3:=HO3.out.is
 have a3:=HO3.out.at
 have hbel3:Below w.heap.size w ((w1.alloc (.cells (ordC 0 noF) 105)).setRow w1.heap.size (ordC n T)):=below_setRow (hbel1.alloc hbel1.size _) hbel1.size _
 clear hb1 i0 a0
 go_wp2_with (refine wpList_alloc_ord rfl rfl ?_)
 refine (HQ.out _).mono ?_
 rintro e w4 ⟨rfl,hb4⟩
 have hbel4:=hbel3.trans (hb4.mono hbel3.size)
 have HT:=hide hT
 clear hb4 i3 a3 i2 hT
 go_wp2
 go_ret
 exact⟨by rw [HT.out];rfl,hbel4⟩
theorem vCheck_any (c:Cfg) (v:CfgV) (w:World) (hok:CfgOk c) (hat:CfgAt w c v) (hcap:c.rules.length≤v.rc) :
  Calls Tryz.prog 83 #[.agg (cfgCells c v)] w fun e w'=>∃ code,e=.returned (.int .i64 code)∧CheckIs c code∧Below w.heap.size w w':=by
 have HQ:=hide (fun w' (hb:Below w.heap.size w w')=>cCheck_any c v w' hok (hat.below hb) hcap)
 have HB0:=hide (below_box w (.cells (cfgCells c v) 31))
 clear hok hat hcap
 unfold cfgCells at *
 go_enter Tryz.func83,Tryz.ntmps83
 go_wp2_with fail
 refine (HQ.out _ HB0.out).mono ?_
 rintro e w1 ⟨code,L,f,rfl,⟨hc,_⟩,hb1⟩
 have hbel1:=HB0.out.trans (hb1.mono (by simp))
 have HC:=hide hc
 have HN:=hide (Go.heap_alloc_new w1 (.cells (ordC 0 noF) 105))
 have i2:rowIs (w1.alloc (.cells (ordC 0 noF) 105)) w1.heap.size 37:=⟨_,_,HN.out,ordC_size _ _⟩
 have hbel3:Below w.heap.size w ((w1.alloc (.cells (ordC 0 noF) 105)).setRow w1.heap.size (ordC L f)):=below_setRow (hbel1.alloc hbel1.size _) hbel1.size _
 clear hb1 HB0 hc
 go_wp2_with (refine wpList_alloc_ord rfl rfl ?_)
 go_ret
 exact⟨code,rfl,HC.out,hbel3⟩
def TwoIs {α:Type} (c:Cfg) (a b:Int) (z x r:α) (code:Int):Prop:=∃ k,CheckIs c k∧(k≠0→r=z∧code=k)∧(k=0→(okL c.labels a && okL c.labels b)=false→r=z∧code=6)∧(k=0→(okL c.labels a && okL c.labels b)=true→r=x∧code=0)
theorem TwoIs.same {α:Type} {c:Cfg} {a b:Int} {z x r r':α} {code code':Int} (h:TwoIs c a b z x r code) (h':TwoIs c a b z x r' code'):r=r'∧code=code':=by
 obtain⟨k,h1,h2,h3,h4⟩:=h
 obtain⟨k',h1',h2',h3',h4'⟩:=h'
 obtain rfl:=h1.same h1'
 by_cases hk:k=0
 ·cases ho:(okL c.labels a && okL c.labels b)
  ·obtain⟨e1,e2⟩:=h3 hk ho
   obtain⟨e3,e4⟩:=h3' hk ho
   exact⟨e1.trans e3.symm,e2.trans e4.symm⟩
  ·obtain⟨e1,e2⟩:=h4 hk ho
   obtain⟨e3,e4⟩:=h4' hk ho
   exact⟨e1.trans e3.symm,e2.trans e4.symm⟩
 ·obtain⟨e1,e2⟩:=h2 hk
  obtain⟨e3,e4⟩:=h2' hk
  exact⟨e1.trans e3.symm,e2.trans e4.symm⟩
structure TwoOk (c:Cfg) (a b:Int) (k:Int):Prop where
 check:CheckIs c 0
 zero:k=0
 one:okL c.labels a=true
 two:okL c.labels b=true
structure TwoNo (c:Cfg) (a b:Int) (k:Int):Prop where
 ne:k≠0
 is:∃ k0,CheckIs c k0∧(k0≠0→k=k0)∧(k0=0→(okL c.labels a && okL c.labels b)=false∧k=6)
theorem TwoNo.two {α:Type} {c:Cfg} {a b k:Int} (h:TwoNo c a b k) (z x:α):TwoIs c a b z x z k:=by
 obtain⟨k0,h1,h2,h3⟩:=h.is
 exact⟨k0,h1,fun hk=>⟨rfl,h2 hk⟩,fun hk _=>⟨rfl,(h3 hk).2⟩,fun hk ho=>by rw [(h3 hk).1] at ho;simp at ho⟩
theorem TwoOk.two' {α:Type} {c:Cfg} {a b k:Int} (h:TwoOk c a b k) (z x:α):TwoIs c a b z x x 0:=
 ⟨0,h.check,fun hk=>absurd rfl hk,fun _ ho=>by rw [h.one,h.two] at ho;simp at ho,fun _ _=>⟨rfl,rfl⟩⟩
theorem orderOf_any (c:Cfg) (v:CfgV) (a b:Int) (w:World) (hok:CfgOk c) (hat:CfgAt w c v) (hcap:c.rules.length≤v.rc) :
  Calls Tryz.prog 128 #[.agg (cfgCells c v),.int .i64 a,.int .i64 b] w fun e w'=>∃ code L f,e=.returned (.tuple #[.agg (ordC L f),.int .i64 code])∧(TwoNo c a b code∨(TwoOk c a b code∧L=c.n∧f=tT c))∧Below w.heap.size w w':=by
 have HQ:=hide (fun w' (hb:Below w.heap.size w w')=>cCheck_any c v w' hok (hat.below hb) hcap)
 have HB0:=hide (below_box w (.cells (cfgCells c v) 31))
 have HB1:=hide ((HB0.out).alloc (by simp) (.cells (ordC 0 noF) 105))
 have HN1:=hide (heap_alloc2_new w (.cells (cfgCells c v) 31) (.cells (ordC 0 noF) 105))
 clear hok hat hcap
 unfold cfgCells at *
 go_enter Tryz.func128,Tryz.ntmps128
 go_wp2_with (refine wpList_alloc_ord rfl rfl ?_)
 refine (HQ.out _ HB1.out).mono ?_
 rintro e w1 ⟨code,L,f,rfl,⟨hc,hc0⟩,hb1⟩
 have hbel1:=HB1.out.trans (hb1.mono (by simp;omega))
 have HC:=hide hc
 have HC0:=hide hc0
 have HR1:Hid (w1.heap[w.heap.size+1]?=some (.cells (ordC 0 noF) 105 (0,0))):=Below.row hb1 HN1.out (lt_of_row HN1.out)
 have HN:=hide (Go.heap_alloc_new w1 (.cells (ordC 0 noF) 105))
 have hlt1:=lt_of_row HR1.out
 have i2:rowIs (w1.alloc (.cells (ordC 0 noF) 105)) w1.heap.size 37:=⟨_,_,HN.out,ordC_size _ _⟩
 have HO3:Hid (OrdAt ((w1.alloc (.cells (ordC 0 noF) 105)).setRow w1.heap.size (ordC L f)) w1.heap.size L f):=setRow_heap _ _ _ (ordC L f) _ _ HN.out
 have HR3:Hid (((w1.alloc (.cells (ordC 0 noF) 105)).setRow w1.heap.size (ordC L f)).heap[w.heap.size+1]?=some (.cells (ordC 0 noF) 105 (0,0))):=(setRow_other _ _ _ _ (Nat.ne_of_lt hlt1)).trans (row_alloc' HR1.out)
 have hbel3:Below w.heap.size w ((w1.alloc (.cells (ordC 0 noF) 105)).setRow w1.heap.size (ordC L f)):=below_setRow (hbel1.alloc hbel1.size _) hbel1.size _
 have i3:=HO3.out.is
 have a3:=HO3.out.at
 have j3:rowIs ((w1.alloc (.cells (ordC 0 noF) 105)).setRow w1.heap.size (ordC L f)) (w.heap.size+1) 37:=⟨_,_,HR3.out,ordC_size _ _⟩
 clear hb1 HB0 HB1 HN1 HR1 HQ hc hc0
 cases hcode:(code == 0)
 ·have hne:Hid (code≠0):=(show code≠0 by simpa using hcode)
  go_wp2_with (first|(refine wpList_alloc_ord rfl rfl ?_)|(refine wpList_build_zero rfl rfl ?_))
  exact bodyPost_ret (results_cell_tmp Tryz.results128 _ _ (w.heap.size+1) _ (ordC 0 noF) (0,0) _ (by simp) (setRow_heap _ _ _ _ _ _ HR3.out) Tryz.underlying105 rfl (by rw [Tryz.sizeOrder,ordC_size])) rfl ⟨code,0,noF,rfl,Or.inl ⟨hne.out,code,HC.out,fun _=>rfl,fun h=>absurd h hne.out⟩,below_setRow hbel3 (by omega) _⟩
 obtain rfl:code=0:=by simpa using hcode
 have HHA:Hid (∀ (x:Int) (w':World),Calls Tryz.prog 54 #[.agg (ordC L f),.int .i64 x] w' fun e w''=>e=.returned (.bool (okL c.labels x))∧Below w'.heap.size w' w''):=fun x w'=>by
  have:=has_any L f x w'
  obtain⟨hl,_,_⟩:=HC.out.right rfl
  obtain⟨_,_,_,_,hn,_,_⟩:=labels_of hl
  have hL:c.labels=L:=by rw [(HC0.out rfl).1,hn]
  rw [hL]
  exact this
 clear hcode
 generalize hLL:c.labels=LL at *
 cases g1:okL LL a
 ·have G1:=hide g1
  clear g1
  go_wp2_with (refine wpList_alloc_ord rfl rfl ?_)
  refine (HHA.out a _).mono ?_
  rintro e w4 ⟨rfl,hb4⟩
  rw [G1.out]
  have hbel4:=hbel3.trans (hb4.mono hbel3.size)
  have HR4:Hid (w4.heap[w.heap.size+1]?=some (.cells (ordC 0 noF) 105 (0,0))):=Below.row hb4 HR3.out (lt_of_row HR3.out)
  have j4:rowIs w4 (w.heap.size+1) 37:=⟨_,_,HR4.out,ordC_size _ _⟩
  clear hb4 i3 a3 j3 i2
  go_wp2_with (refine wpList_build_zero rfl rfl ?_)
  exact bodyPost_ret (results_cell_tmp Tryz.results128 _ _ (w.heap.size+1) _ (ordC 0 noF) (0,0) _ (by simp) (setRow_heap _ _ _ _ _ _ HR4.out) Tryz.underlying105 rfl (by rw [Tryz.sizeOrder,ordC_size])) rfl ⟨6,0,noF,rfl,Or.inl ⟨by decide,0,HC.out,fun h=>absurd rfl h,fun _=>⟨by rw [hLL,G1.out];rfl,rfl⟩⟩,below_setRow hbel4 (by omega) _⟩
 have G1:=hide g1
 clear g1
 go_wp2_with (refine wpList_alloc_ord rfl rfl ?_)
 refine (HHA.out a _).mono ?_
 rintro e w4 ⟨rfl,hb4⟩
 rw [G1.out]
 have hbel4:=hbel3.trans (hb4.mono hbel3.size)
 have HR4:Hid (w4.heap[w.heap.size+1]?=some (.cells (ordC 0 noF) 105 (0,0))):=Below.row hb4 HR3.out (lt_of_row HR3.out)
 have HO4:=hide (HO3.out.below hb4 HO3.out.lt)
 have i4:=HO4.out.is
 have a4:=HO4.out.at
 have j4:rowIs w4 (w.heap.size+1) 37:=⟨_,_,HR4.out,ordC_size _ _⟩
 clear hb4 i3 a3 j3 i2
 go_wp2_with fail
 refine (HHA.out b _).mono ?_
 rintro e w5 ⟨rfl,hb5⟩
 have hbel5:=hbel4.trans (hb5.mono hbel4.size)
 have HR5:Hid (w5.heap[w.heap.size+1]?=some (.cells (ordC 0 noF) 105 (0,0))):=Below.row hb5 HR4.out (lt_of_row HR4.out)
 have HO5:=hide (HO4.out.below hb5 HO4.out.lt)
 have i5:=HO5.out.is
 have a5:=HO5.out.at
 have j5:rowIs w5 (w.heap.size+1) 37:=⟨_,_,HR5.out,ordC_size _ _⟩
 clear hb5 i4 a4 j4
 cases g2:okL LL b
 ·have G2:=hide g2
  clear g2
  go_wp2_with (refine wpList_build_zero rfl rfl ?_)
  exact bodyPost_ret (results_cell_tmp Tryz.results128 _ _ (w.heap.size+1) _ (ordC 0 noF) (0,0) _ (by simp) (setRow_heap _ _ _ _ _ _ HR5.out) Tryz.underlying105 rfl (by rw [Tryz.sizeOrder,ordC_size])) rfl ⟨6,0,noF,rfl,Or.inl ⟨by decide,0,HC.out,fun h=>absurd rfl h,fun _=>⟨by rw [hLL,G2.out];simp,rfl⟩⟩,below_setRow hbel5 (by omega) _⟩
 ·have G2:=hide g2
  clear g2
  go_wp2
  exact bodyPost_ret (results_cell_tmp Tryz.results128 _ _ (w.heap.size+1) _ (ordC L f) (0,0) _ (by simp) (setRow_heap _ _ _ _ _ _ HR5.out) Tryz.underlying105 rfl (by rw [Tryz.sizeOrder,ordC_size])) rfl ⟨0,L,f,rfl,Or.inr ⟨⟨HC.out,rfl,by rw [hLL];exact G1.out,by rw [hLL];exact G2.out⟩,HC0.out (by simp)⟩,below_setRow hbel5 (by omega) _⟩
end Go.Proofs.YtgigkiocdiffjaaGreat
namespace Go.Proofs.YtgigkiocdiffjaaGreat
open Go.RowKit Veil
theorem TwoOk.nat {c:Cfg} {a b k:Int} (h:TwoOk c a b k):labelsB c=true∧c.n≤6∧¬ c.noLat∧∃ x y:Nat,a=x∧b=y∧x<c.n∧y<c.n:=by
 obtain⟨hl,_,hnl⟩:=h.check.right rfl
 obtain⟨_,_,_,_,hn,hn6,_⟩:=labels_of hl
 obtain⟨x,hx,hx'⟩:=okL_nat hn h.one
 obtain⟨y,hy,hy'⟩:=okL_nat hn h.two
 exact⟨hl,hn6,hnl,x,y,hx,hy,hx',hy'⟩
theorem join_pos {c:Cfg} (h:¬ c.noLat) (x y:Nat) (hx:x<c.n) (hy:y<c.n):posI (c.join x y)=c.join x y∧posI (c.meet x y)=c.meet x y:=by
 have h1:0≤c.join x y:=Int.not_lt.1 fun h'=>h ⟨x,y,hx,hy,Or.inl h'⟩
 have h2:0≤c.meet x y:=Int.not_lt.1 fun h'=>h ⟨x,y,hx,hy,Or.inr h'⟩
 exact⟨if_pos h1,if_pos h2⟩
theorem vLeq_any (c:Cfg) (v:CfgV) (a b:Int) (w:World) (hok:CfgOk c) (hat:CfgAt w c v) (hcap:c.rules.length≤v.rc) :
  Calls Tryz.prog 84 #[.agg (cfgCells c v),.int .i64 a,.int .i64 b] w fun e w'=>∃ r code,e=.returned (.tuple #[.bool r,.int .i64 code])∧TwoIs c a b false (c.le a b) r code∧Below w.heap.size w w':=by
 have HQ:=hide (fun w' (hb:Below w.heap.size w w')=>orderOf_any c v a b w' hok (hat.below hb) hcap)
 have HB0:=hide (below_box w (.cells (cfgCells c v) 31))
 clear hok hat hcap
 unfold cfgCells at *
 go_enter Tryz.func84,Tryz.ntmps84
 go_wp2_with fail
 refine (HQ.out _ HB0.out).mono ?_
 rintro e w1 ⟨code,L,f,rfl,hc,hb1⟩
 have HC:=hide hc
 have hbel1:=HB0.out.trans (hb1.mono (by simp))
 have HN:=hide (Go.heap_alloc_new w1 (.cells (ordC 0 noF) 105))
 have i2:rowIs (w1.alloc (.cells (ordC 0 noF) 105)) w1.heap.size 37:=⟨_,_,HN.out,ordC_size _ _⟩
 have HO3:Hid (OrdAt ((w1.alloc (.cells (ordC 0 noF) 105)).setRow w1.heap.size (ordC L f)) w1.heap.size L f):=setRow_heap _ _ _ (ordC L f) _ _ HN.out
 have hbel3:Below w.heap.size w ((w1.alloc (.cells (ordC 0 noF) 105)).setRow w1.heap.size (ordC L f)):=below_setRow (hbel1.alloc hbel1.size _) hbel1.size _
 have i3:=HO3.out.is
 have a3:=HO3.out.at
 clear hb1 HB0 HQ hc
 rcases HC.out with h|⟨h,hL,hf⟩
 ·have HNO:=hide h
  have hcode:(code == 0)=false:=by simpa using h.ne
  clear h
  go_wp2_with (refine wpList_alloc_ord rfl rfl ?_)
  go_ret2
  exact⟨false,code,rfl,HNO.out.two _ _,hbel3⟩
 ·obtain⟨hl,hn6,hnl,x,y,rfl,rfl,hx,hy⟩:=h.nat
  have HOK:=hide h
  have HL:Hid (∀ w',Calls Tryz.prog 113 #[.agg (ordC L f),.int .i64 x,.int .i64 y] w' fun e w''=>e=.returned (.bool (c.le x y))∧Below w'.heap.size w' w''):=fun w'=>by
   have:=oleq_any c.n (tT c) x y w' hn6
   rw [leO_le hl x y hx hy] at this
   rw [hL,hf]
   exact this
  have hcode:code=0:=h.zero
  subst hcode
  clear h hl hn6 hnl hL hf HC hx hy
  go_wp2_with (refine wpList_alloc_ord rfl rfl ?_)
  refine (HL.out _).mono ?_
  rintro e w4 ⟨rfl,hb4⟩
  have hbel4:=hbel3.trans (hb4.mono hbel3.size)
  clear hb4 i3 a3 i2
  go_wp2
  go_ret2
  exact⟨_,0,rfl,HOK.out.two' _ _,hbel4⟩
theorem vJoin_any (c:Cfg) (v:CfgV) (a b:Int) (w:World) (hok:CfgOk c) (hat:CfgAt w c v) (hcap:c.rules.length≤v.rc) :
  Calls Tryz.prog 86 #[.agg (cfgCells c v),.int .i64 a,.int .i64 b] w fun e w'=>∃ r code,e=.returned (.tuple #[.int .i64 r,.int .i64 code])∧TwoIs c a b 0 (c.join a b) r code∧Below w.heap.size w w':=by
 have HQ:=hide (fun w' (hb:Below w.heap.size w w')=>orderOf_any c v a b w' hok (hat.below hb) hcap)
 have HB0:=hide (below_box w (.cells (cfgCells c v) 31))
 clear hok hat hcap
 unfold cfgCells at *
 go_enter Tryz.func86,Tryz.ntmps86
 go_wp2_with fail
 refine (HQ.out _ HB0.out).mono ?_
 rintro e w1 ⟨code,L,f,rfl,hc,hb1⟩
 have HC:=hide hc
 have hbel1:=HB0.out.trans (hb1.mono (by simp))
 have HN:=hide (Go.heap_alloc_new w1 (.cells (ordC 0 noF) 105))
 have i2:rowIs (w1.alloc (.cells (ordC 0 noF) 105)) w1.heap.size 37:=⟨_,_,HN.out,ordC_size _ _⟩
 have HO3:Hid (OrdAt ((w1.alloc (.cells (ordC 0 noF) 105)).setRow w1.heap.size (ordC L f)) w1.heap.size L f):=setRow_heap _ _ _ (ordC L f) _ _ HN.out
 have hbel3:Below w.heap.size w ((w1.alloc (.cells (ordC 0 noF) 105)).setRow w1.heap.size (ordC L f)):=below_setRow (hbel1.alloc hbel1.size _) hbel1.size _
 have i3:=HO3.out.is
 have a3:=HO3.out.at
 clear hb1 HB0 HQ hc
 rcases HC.out with h|⟨h,hL,hf⟩
 ·have HNO:=hide h
  have hcode:(code == 0)=false:=by simpa using h.ne
  clear h
  go_wp2_with (refine wpList_alloc_ord rfl rfl ?_)
  go_ret2
  exact⟨0,code,rfl,HNO.out.two _ _,hbel3⟩
 ·obtain⟨hl,hn6,hnl,x,y,rfl,rfl,hx,hy⟩:=h.nat
  have HOK:=hide h
  have HL:Hid (∀ w',Calls Tryz.prog 130 #[.agg (ordC L f),.int .i64 x,.int .i64 y] w' fun e w''=>e=.returned (.int .i64 (c.join x y))∧Below w'.heap.size w' w''):=fun w'=>by
   have:=oJoin_any c.n (tT c) x y w' hn6
   rw [leastO_join hl x y hx hy,(join_pos hnl x y hx hy).1] at this
   rw [hL,hf]
   exact this
  have hcode:code=0:=h.zero
  subst hcode
  clear h hl hn6 hnl hL hf HC hx hy
  go_wp2_with (refine wpList_alloc_ord rfl rfl ?_)
  refine (HL.out _).mono ?_
  rintro e w4 ⟨rfl,hb4⟩
  have hbel4:=hbel3.trans (hb4.mono hbel3.size)
  clear hb4 i3 a3 i2
  go_wp2
  go_ret2
  exact⟨_,0,rfl,HOK.out.two' _ _,hbel4⟩
theorem vMeet_any (c:Cfg) (v:CfgV) (a b:Int) (w:World) (hok:CfgOk c) (hat:CfgAt w c v) (hcap:c.rules.length≤v.rc) :
  Calls Tryz.prog 88 #[.agg (cfgCells c v),.int .i64 a,.int .i64 b] w fun e w'=>∃ r code,e=.returned (.tuple #[.int .i64 r,.int .i64 code])∧TwoIs c a b 0 (c.meet a b) r code∧Below w.heap.size w w':=by
 have HQ:=hide (fun w' (hb:Below w.heap.size w w')=>orderOf_any c v a b w' hok (hat.below hb) hcap)
 have HB0:=hide (below_box w (.cells (cfgCells c v) 31))
 clear hok hat hcap
 unfold cfgCells at *
 go_enter Tryz.func88,Tryz.ntmps88
 go_wp2_with fail
 refine (HQ.out _ HB0.out).mono ?_
 rintro e w1 ⟨code,L,f,rfl,hc,hb1⟩
 have HC:=hide hc
 have hbel1:=HB0.out.trans (hb1.mono (by simp))
 have HN:=hide (Go.heap_alloc_new w1 (.cells (ordC 0 noF) 105))
 have i2:rowIs (w1.alloc (.cells (ordC 0 noF) 105)) w1.heap.size 37:=⟨_,_,HN.out,ordC_size _ _⟩
 have HO3:Hid (OrdAt ((w1.alloc (.cells (ordC 0 noF) 105)).setRow w1.heap.size (ordC L f)) w1.heap.size L f):=setRow_heap _ _ _ (ordC L f) _ _ HN.out
 have hbel3:Below w.heap.size w ((w1.alloc (.cells (ordC 0 noF) 105)).setRow w1.heap.size (ordC L f)):=below_setRow (hbel1.alloc hbel1.size _) hbel1.size _
 have i3:=HO3.out.is
 have a3:=HO3.out.at
 clear hb1 HB0 HQ hc
 rcases HC.out with h|⟨h,hL,hf⟩
 ·have HNO:=hide h
  have hcode:(code == 0)=false:=by simpa using h.ne
  clear h
  go_wp2_with (refine wpList_alloc_ord rfl rfl ?_)
  go_ret2
  exact⟨0,code,rfl,HNO.out.two _ _,hbel3⟩
 ·obtain⟨hl,hn6,hnl,x,y,rfl,rfl,hx,hy⟩:=h.nat
  have HOK:=hide h
  have HL:Hid (∀ w',Calls Tryz.prog 131 #[.agg (ordC L f),.int .i64 x,.int .i64 y] w' fun e w''=>e=.returned (.int .i64 (c.meet x y))∧Below w'.heap.size w' w''):=fun w'=>by
   have:=oMeet_any c.n (tT c) x y w' hn6
   rw [show leastO c.n (turnF c.n (tT c) c.n 0) x y=c.meet x y from leastO_meet hl x y hx hy,(join_pos hnl x y hx hy).2] at this
   rw [hL,hf]
   exact this
  have hcode:code=0:=h.zero
  subst hcode
  clear h hl hn6 hnl hL hf HC hx hy
  go_wp2_with (refine wpList_alloc_ord rfl rfl ?_)
  refine (HL.out _).mono ?_
  rintro e w4 ⟨rfl,hb4⟩
  have hbel4:=hbel3.trans (hb4.mono hbel3.size)
  clear hb4 i3 a3 i2
  go_wp2
  go_ret2
  exact⟨_,0,rfl,HOK.out.two' _ _,hbel4⟩
end Go.Proofs.YtgigkiocdiffjaaGreat
namespace Go.Proofs.YtgigkiocdiffjaaGreat
open Go.RowKit Veil
theorem rtwo_any (c:Cfg) (v:CfgV) (a b:Int) (w:World) (hok:CfgOk c) (hat:CfgAt w c v) :
  Calls Tryz.prog 129 #[.agg (cfgCells c v),.int .i64 a,.int .i64 b] w fun e w'=>∃ code,e=.returned (.int .i64 code)∧(TwoNo c a b code∨TwoOk c a b code)∧Below w.heap.size w w':=by
 have HQ:=hide (fun w' (hb:Below w.heap.size w w')=>rCheck_any c v w' hok (hat.below hb))
 have HB0:=hide (below_box w (.cells (cfgCells c v) 31))
 have HX0:=hide (box_new w c v)
 have HHA:=hide (fun (x:Int) (w':World)=>rlabel_any c v x w')
 clear hok hat
 unfold cfgCells at *
 go_enter Tryz.func129,Tryz.ntmps129
 go_wp2_with fail
 refine (HQ.out _ HB0.out).mono ?_
 rintro e w1 ⟨code,rfl,hc,hb1⟩
 have HC:=hide hc
 have hbel1:=HB0.out.trans (hb1.mono (by simp))
 have HX1:=hide (HX0.out.below hb1 HX0.out.lt)
 obtain⟨q0,q1,q2,q3⟩:=HX1.out.cells
 clear hb1 HB0 HQ hc HX0
 cases hcode:(code == 0)
 ·have hne:Hid (code≠0):=(show code≠0 by simpa using hcode)
  go_wp2
  go_ret
  exact⟨code,rfl,Or.inl ⟨hne.out,code,HC.out,fun _=>rfl,fun h=>absurd h hne.out⟩,hbel1⟩
 obtain rfl:code=0:=by simpa using hcode
 clear hcode
 cases g1:okL c.labels a
 ·have G1:=hide g1
  clear g1
  go_wp2_with fail
  refine (HHA.out a _).mono ?_
  rintro e w4 ⟨rfl,hb4⟩
  rw [G1.out]
  have hbel4:=hbel1.trans (hb4.mono hbel1.size)
  clear hb4
  go_wp2
  go_ret
  exact⟨6,rfl,Or.inl ⟨by decide,0,HC.out,fun h=>absurd rfl h,fun _=>⟨by rw [G1.out];rfl,rfl⟩⟩,hbel4⟩
 have G1:=hide g1
 clear g1
 go_wp2_with fail
 refine (HHA.out a _).mono ?_
 rintro e w4 ⟨rfl,hb4⟩
 rw [G1.out]
 have hbel4:=hbel1.trans (hb4.mono hbel1.size)
 have HX4:=hide (HX1.out.below hb4 HX1.out.lt)
 clear q0 q1 q2 q3 hb4
 obtain⟨q0,q1,q2,q3⟩:=HX4.out.cells
 go_wp2_with fail
 refine (HHA.out b _).mono ?_
 rintro e w5 ⟨rfl,hb5⟩
 have hbel5:=hbel4.trans (hb5.mono hbel4.size)
 clear q0 q1 q2 q3 hb5
 cases g2:okL c.labels b
 ·have G2:=hide g2
  clear g2
  go_wp2
  go_ret
  exact⟨6,rfl,Or.inl ⟨by decide,0,HC.out,fun h=>absurd rfl h,fun _=>⟨by rw [G2.out];simp,rfl⟩⟩,hbel5⟩
 ·have G2:=hide g2
  clear g2
  go_wp2
  go_ret
  exact⟨0,rfl,Or.inr ⟨HC.out,rfl,G1.out,G2.out⟩,hbel5⟩
theorem rLeq2_any (c:Cfg) (v:CfgV) (a b:Int) (w:World) (hok:CfgOk c) (hat:CfgAt w c v) :
  Calls Tryz.prog 85 #[.agg (cfgCells c v),.int .i64 a,.int .i64 b] w fun e w'=>∃ r code,e=.returned (.tuple #[.bool r,.int .i64 code])∧TwoIs c a b false (c.le a b) r code∧Below w.heap.size w w':=by
 have HQ:=hide (fun w' (hb:Below w.heap.size w w')=>rtwo_any c v a b w' hok (hat.below hb))
 have HB0:=hide (below_box w (.cells (cfgCells c v) 31))
 have HX0:=hide (box_new w c v)
 have HR:=hide (fun (x y:Nat) (w':World) (hl:labelsB c=true) (hx:x<c.n) (hy:y<c.n) (hb:Below w.heap.size w w')=>rleq_any c v x y w' hl (hat.below hb) hx hy)
 clear hok hat
 unfold cfgCells at *
 go_enter Tryz.func85,Tryz.ntmps85
 go_wp2_with fail
 refine (HQ.out _ HB0.out).mono ?_
 rintro e w1 ⟨code,rfl,hc,hb1⟩
 have HC:=hide hc
 have hbel1:=HB0.out.trans (hb1.mono (by simp))
 have HX1:=hide (HX0.out.below hb1 HX0.out.lt)
 obtain⟨q0,q1,q2,q3⟩:=HX1.out.cells
 clear hb1 HB0 HQ hc
 rcases HC.out with h|h
 ·have HNO:=hide h
  have hcode:(code == 0)=false:=by simpa using h.ne
  clear h
  go_wp2
  go_ret2
  exact⟨false,code,rfl,HNO.out.two _ _,hbel1⟩
 ·obtain⟨hl,hn6,hnl,x,y,rfl,rfl,hx,hy⟩:=h.nat
  have HOK:=hide h
  have HL:=hide (fun w' hb=>HR.out x y w' hl hx hy hb)
  have hcode:code=0:=h.zero
  subst hcode
  clear h hl hn6 hnl HC hx hy HR
  go_wp2_with fail
  refine (HL.out _ hbel1).mono ?_
  rintro e w4 ⟨rfl,hb4⟩
  have hbel4:=hbel1.trans (hb4.mono hbel1.size)
  clear hb4
  go_wp2
  go_ret2
  exact⟨_,0,rfl,HOK.out.two' _ _,hbel4⟩
theorem rJoin2_any (c:Cfg) (v:CfgV) (a b:Int) (w:World) (hok:CfgOk c) (hat:CfgAt w c v) :
  Calls Tryz.prog 87 #[.agg (cfgCells c v),.int .i64 a,.int .i64 b] w fun e w'=>∃ r code,e=.returned (.tuple #[.int .i64 r,.int .i64 code])∧TwoIs c a b 0 (c.join a b) r code∧Below w.heap.size w w':=by
 have HQ:=hide (fun w' (hb:Below w.heap.size w w')=>rtwo_any c v a b w' hok (hat.below hb))
 have HB0:=hide (below_box w (.cells (cfgCells c v) 31))
 have HX0:=hide (box_new w c v)
 have HR:=hide (fun (x y:Nat) (w':World) (hl:labelsB c=true) (hx:x<c.n) (hy:y<c.n) (hb:Below w.heap.size w w')=>rjoin_any c v x y w' hl (hat.below hb) hx hy)
 clear hok hat
 unfold cfgCells at *
 go_enter Tryz.func87,Tryz.ntmps87
 go_wp2_with fail
 refine (HQ.out _ HB0.out).mono ?_
 rintro e w1 ⟨code,rfl,hc,hb1⟩
 have HC:=hide hc
 have hbel1:=HB0.out.trans (hb1.mono (by simp))
 have HX1:=hide (HX0.out.below hb1 HX0.out.lt)
 obtain⟨q0,q1,q2,q3⟩:=HX1.out.cells
 clear hb1 HB0 HQ hc
 rcases HC.out with h|h
 ·have HNO:=hide h
  have hcode:(code == 0)=false:=by simpa using h.ne
  clear h
  go_wp2
  go_ret2
  exact⟨0,code,rfl,HNO.out.two _ _,hbel1⟩
 ·obtain⟨hl,hn6,hnl,x,y,rfl,rfl,hx,hy⟩:=h.nat
  have HOK:=hide h
  have HL:=hide (fun w' hb=>HR.out x y w' hl hx hy hb)
  have hcode:code=0:=h.zero
  subst hcode
  clear h hl hn6 hnl HC hx hy HR
  go_wp2_with fail
  refine (HL.out _ hbel1).mono ?_
  rintro e w4 ⟨rfl,hb4⟩
  have hbel4:=hbel1.trans (hb4.mono hbel1.size)
  clear hb4
  go_wp2
  go_ret2
  exact⟨_,0,rfl,HOK.out.two' _ _,hbel4⟩
theorem rMeet2_any (c:Cfg) (v:CfgV) (a b:Int) (w:World) (hok:CfgOk c) (hat:CfgAt w c v) :
  Calls Tryz.prog 89 #[.agg (cfgCells c v),.int .i64 a,.int .i64 b] w fun e w'=>∃ r code,e=.returned (.tuple #[.int .i64 r,.int .i64 code])∧TwoIs c a b 0 (c.meet a b) r code∧Below w.heap.size w w':=by
 have HQ:=hide (fun w' (hb:Below w.heap.size w w')=>rtwo_any c v a b w' hok (hat.below hb))
 have HB0:=hide (below_box w (.cells (cfgCells c v) 31))
 have HX0:=hide (box_new w c v)
 have HR:=hide (fun (x y:Nat) (w':World) (hl:labelsB c=true) (hx:x<c.n) (hy:y<c.n) (hb:Below w.heap.size w w')=>rmeet_any c v x y w' hl (hat.below hb) hx hy)
 clear hok hat
 unfold cfgCells at *
 go_enter Tryz.func89,Tryz.ntmps89
 go_wp2_with fail
 refine (HQ.out _ HB0.out).mono ?_
 rintro e w1 ⟨code,rfl,hc,hb1⟩
 have HC:=hide hc
 have hbel1:=HB0.out.trans (hb1.mono (by simp))
 have HX1:=hide (HX0.out.below hb1 HX0.out.lt)
 obtain⟨q0,q1,q2,q3⟩:=HX1.out.cells
 clear hb1 HB0 HQ hc
 rcases HC.out with h|h
 ·have HNO:=hide h
  have hcode:(code == 0)=false:=by simpa using h.ne
  clear h
  go_wp2
  go_ret2
  exact⟨0,code,rfl,HNO.out.two _ _,hbel1⟩
 ·obtain⟨hl,hn6,hnl,x,y,rfl,rfl,hx,hy⟩:=h.nat
  have HOK:=hide h
  have HL:=hide (fun w' hb=>HR.out x y w' hl hx hy hb)
  have hcode:code=0:=h.zero
  subst hcode
  clear h hl hn6 hnl HC hx hy HR
  go_wp2_with fail
  refine (HL.out _ hbel1).mono ?_
  rintro e w4 ⟨rfl,hb4⟩
  have hbel4:=hbel1.trans (hb4.mono hbel1.size)
  clear hb4
  go_wp2
  go_ret2
  exact⟨_,0,rfl,HOK.out.two' _ _,hbel4⟩
end Go.Proofs.YtgigkiocdiffjaaGreat
