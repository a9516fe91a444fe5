import Derived.Test.YtgigkiocdiffjaaGreatS23
import Derived.Test.YtgigkiocdiffjaaGreatS13
set_option maxRecDepth 100000
set_option maxHeartbeats 16000000
namespace Go.Proofs.YtgigkiocdiffjaaGreat
open Go.RowKit Veil
theorem OwnL.only {α:Type} {e:TypeId} {sz:Nat} {f:α→List Value} {w w':World} {B:Nat} {v:Value} {l:List α} {F:Nat→Prop} (h:OwnL e sz f w B v l) (ho:Only F w w') (hb:∀ b,v.ownBlock=some b→¬ F b):OwnL e sz f w' B v l:=by
 refine⟨h.1,h.2.imp id ?_⟩
 rintro ⟨gg,cap,cur,h1,h2,h3,h4⟩
 refine⟨gg,cap,cur,h1,h2,?_,h4⟩
 rw [ho.block gg (lt_of_row h3) (hb gg (by rw [h1];rfl))]
 exact h3
theorem Only.cellAt {F:Nat→Prop} {w w':World} (h:Only F w w') {a:Addr} (hk:a.block<w.heap.size) (hn:¬ F a.block):w'.cell? a=w.cell? a:=by
 have:=h.block a.block hk hn
 simp only [World.cell?,this]
theorem Only.drew {F:Nat→Prop} {w w':World} (h:Only F w w'):Only F w w'.drew:=⟨h.os,h.tape,h.output,h.size,h.block⟩
theorem OwnL.setOther {α:Type} {e:TypeId} {sz:Nat} {f:α→List Value} {w:World} {B:Nat} {v:Value} {l:List α} (h:OwnL e sz f w B v l) {g i:Nat} {u:Value} (hne:∀ b,v.ownBlock=some b→b≠g):OwnL e sz f (w.setCell ⟨g,i,none⟩ u) B v l:=
 h.kept (grown_setCell _ _ _) (fun b h1 h2=>hne b h1 (Option.some.inj h2).symm)
theorem Only.setCell {F:Nat→Prop} {w w':World} {a:Addr} {v:Value} (h:Only F w w') (hF:F a.block):Only F w (w'.setCell a v):=
 ⟨h.os,h.tape,h.output,by rw [show (w'.setCell a v).heap.size=w'.heap.size by simp [World.setCell]];exact h.size,fun k hk hn=>(heap_setCell_other _ a k v (fun e=>hn (by rw [e];exact hF))).trans (h.block k hk hn)⟩
def updF {α:Type} (F:Nat→α) (l:Nat) (x:α):Nat→α:=fun i=>if i=l then x else F i
theorem updF_same {α:Type} (F:Nat→α) (l:Nat) (x:α):updF F l x l=x:=if_pos rfl
theorem updF_other {α:Type} (F:Nat→α) {l i:Nat} (x:α) (h:i≠l):updF F l x i=F i:=if_neg h
structure PV where
 rv:Value
 pv:Value
 nw:NW
inductive PT where
 | box
 | rules
 | cells
 | log (i:Nat)
 | wait (i:Nat)
def pblk (n g:Nat) (p:PV):PT→Option Nat
 | .box=>some g
 | .rules=>p.rv.ownBlock
 | .cells=>p.pv.ownBlock
 | .log i=>bif decide (i<n) then (p.nw.lg i).ownBlock else none
 | .wait i=>bif decide (i<n) then (p.nw.wt i).ownBlock else none
theorem pblk_log {n g i:Nat} {p:PV} (h:i<n):pblk n g p (.log i)=(p.nw.lg i).ownBlock:=by simp [pblk,h]
theorem pblk_wait {n g i:Nat} {p:PV} (h:i<n):pblk n g p (.wait i)=(p.nw.wt i).ownBlock:=by simp [pblk,h]
theorem pblk_log' {n g i x:Nat} {p:PV} (h:pblk n g p (.log i)=some x):i<n∧(p.nw.lg i).ownBlock=some x:=by
 by_cases hi:i<n
 ·rw [pblk_log hi] at h;exact⟨hi,h⟩
 ·simp [pblk,hi] at h
theorem pblk_wait' {n g i x:Nat} {p:PV} (h:pblk n g p (.wait i)=some x):i<n∧(p.nw.wt i).ownBlock=some x:=by
 by_cases hi:i<n
 ·rw [pblk_wait hi] at h;exact⟨hi,h⟩
 ·simp [pblk,hi] at h
structure PDocO (B:Nat) (w:World) (g:Nat) (c:Cfg) (row:List RC) (I:Nat→Nat) (L:Nat→List Rec) (V:Nat→Nat) (W:Nat→List No) (p:PV):Prop where
 box:PBox w g c.n (tT c) p.rv (grF c) p.pv I p.nw
 rules:OwnL 163 2 ruleV w B p.rv c.rules
 cells:OwnL 181 20 (pcV c) w B p.pv row
 logs:∀ i,i<c.n→OwnL 97 3 recV w B (p.nw.lg i) (L i)
 vers:∀ i,i<c.n→p.nw.vs i=V i
 waits:∀ i,i<c.n→OwnL 100 2 noV w B (p.nw.wt i) (W i)
 apart:∀ a b x,pblk c.n g p a=some x→pblk c.n g p b=some x→a=b
 low:∀ a x,pblk c.n g p a=some x→B≤x∧x<w.heap.size
def PStep (n g:Nat) (p:PV) (w:World) (p':PV) (w':World):Prop:=Only (fun b=>∃ a,pblk n g p a=some b) w w'∧∀ a x,pblk n g p' a=some x→(∃ b,pblk n g p b=some x)∨w.heap.size≤x
section
variable {B n g:Nat} {w w' w1 w2:World} {c:Cfg} {row row':List RC} {I I':Nat→Nat} {L:Nat→List Rec} {V:Nat→Nat} {W:Nat→List No} {p p1 p2:PV}
theorem PStep.below (h:Below w.heap.size w w'):PStep n g p w p w':=⟨Only.of_below h,fun a _ hx=>Or.inl ⟨a,hx⟩⟩
theorem PStep.trans (h1:PStep n g p w p1 w1) (h2:PStep n g p1 w1 p2 w2):PStep n g p w p2 w2:=
 ⟨h1.1.trans h2.1 (fun k ⟨a,ha⟩=>h1.2 a k ha),fun a x hx=>by
  rcases h2.2 a x hx with⟨b,hb⟩|h
  ·exact h1.2 b x hb
  ·exact Or.inr (Nat.le_trans h1.1.size h)⟩
theorem PDocO.only (h:PDocO B w g c row I L V W p) {F:Nat→Prop} (ho:Only F w w') (hF:∀ a x,pblk c.n g p a=some x→¬ F x):PDocO B w' g c row I L V W p:=
 ⟨h.box.kept (ho.block g h.box.lt (hF .box g rfl)),h.rules.only ho (fun b hb=>hF .rules b hb),h.cells.only ho (fun b hb=>hF .cells b hb),fun i hi=>(h.logs i hi).only ho (fun b hb=>hF (.log i) b (by rw [pblk_log hi];exact hb)),h.vers,fun i hi=>(h.waits i hi).only ho (fun b hb=>hF (.wait i) b (by rw [pblk_wait hi];exact hb)),h.apart,fun a x hx=>⟨(h.low a x hx).1,Nat.lt_of_lt_of_le (h.low a x hx).2 ho.size⟩⟩
theorem PDocO.below (h:PDocO B w g c row I L V W p) (hb:Below w.heap.size w w'):PDocO B w' g c row I L V W p:=h.only (F:=fun _=>False) (Only.of_below hb) (fun _ _ _ h=>h)
theorem PDocO.ne (h:PDocO B w g c row I L V W p) {a:PT} (ha:a≠.box) {b:Nat} (hb:pblk c.n g p a=some b):b≠g:=fun e=>ha (h.apart a .box b hb (by rw [e];rfl))
theorem PDocO.neLog (h:PDocO B w g c row I L V W p) {i:Nat} (hi:i<c.n) {b:Nat} (hb:(p.nw.lg i).ownBlock=some b):b≠g:=h.ne (a:=.log i) (by simp) (by rw [pblk_log hi];exact hb)
theorem PDocO.neWait (h:PDocO B w g c row I L V W p) {i:Nat} (hi:i<c.n) {b:Nat} (hb:(p.nw.wt i).ownBlock=some b):b≠g:=h.ne (a:=.wait i) (by simp) (by rw [pblk_wait hi];exact hb)
theorem PDocO.mark (h:PDocO B w g c row I L V W p) (hown:OwnL 181 20 (pcV c) w1 B p.pv row') (ho:Only (fun k=>p.pv.ownBlock=some k) w w1):PDocO B w1 g c row' I L V W p∧PStep c.n g p w p w1:=by
 have hF:∀ a,a≠PT.cells→∀ x,pblk c.n g p a=some x→¬ p.pv.ownBlock=some x:=fun a ha x hx e=>ha (h.apart a .cells x hx e)
 refine⟨⟨h.box.kept (ho.block g h.box.lt (hF .box (by simp) g rfl)),h.rules.only ho (fun b hb=>hF .rules (by simp) b hb),hown,fun i hi=>(h.logs i hi).only ho (fun b hb=>hF (.log i) (by simp) b (by rw [pblk_log hi];exact hb)),h.vers,fun i hi=>(h.waits i hi).only ho (fun b hb=>hF (.wait i) (by simp) b (by rw [pblk_wait hi];exact hb)),h.apart,fun a x hx=>⟨(h.low a x hx).1,Nat.lt_of_lt_of_le (h.low a x hx).2 ho.size⟩⟩,⟨ho.os,ho.tape,ho.output,ho.size,fun k hk hn=>ho.block k hk (fun e=>hn ⟨.cells,e⟩)⟩,fun a _ hx=>Or.inl ⟨a,hx⟩⟩
theorem PDocO.lay (h:PDocO B w g c row I L V W p) {v6:Value} (hpb:PBox w1 g c.n (tT c) p.rv (grF c) v6 I' p.nw) (hown:OwnL 181 20 (pcV c) w1 w.heap.size v6 row') (ho:Only (fun k=>k=g) w w1) (hB:B≤w.heap.size):PDocO B w1 g c row' I' L V W ⟨p.rv,v6,p.nw⟩∧PStep c.n g p w ⟨p.rv,v6,p.nw⟩ w1:=by
 have hblk:∀ a x,pblk c.n g ⟨p.rv,v6,p.nw⟩ a=some x→(a=.cells∧w.heap.size≤x∧x<w1.heap.size)∨(a≠.cells∧pblk c.n g p a=some x):=by
  intro a x hx
  cases a with
  | cells=>exact Or.inl ⟨rfl,hown.lt hx⟩
  | box=>exact Or.inr ⟨by simp,hx⟩
  | rules=>exact Or.inr ⟨by simp,hx⟩
  | log i=>exact Or.inr ⟨by simp,hx⟩
  | wait i=>exact Or.inr ⟨by simp,hx⟩
 have hs:=ho.size
 refine⟨⟨hpb,h.rules.only ho (fun b hb=>h.ne (a:=.rules) (by simp) hb),hown.mono hB,fun i hi=>(h.logs i hi).only ho (fun b hb=>h.neLog hi hb),h.vers,fun i hi=>(h.waits i hi).only ho (fun b hb=>h.neWait hi hb),?_,?_⟩,⟨ho.os,ho.tape,ho.output,ho.size,fun k hk hn=>ho.block k hk (fun e=>hn ⟨.box,by rw [e];rfl⟩)⟩,?_⟩
 ·intro a b x ha hb
  rcases hblk a x ha with⟨rfl,h1,_⟩|⟨_,h1⟩
  ·rcases hblk b x hb with⟨rfl,_⟩|⟨_,h2⟩
   ·rfl
   ·have:=(h.low b x h2).2;omega
  ·rcases hblk b x hb with⟨rfl,h2,_⟩|⟨_,h2⟩
   ·have:=(h.low a x h1).2;omega
   ·exact h.apart a b x h1 h2
 ·intro a x hx
  rcases hblk a x hx with⟨rfl,h1,h2⟩|⟨_,h1⟩
  ·exact⟨by omega,h2⟩
  ·have:=h.low a x h1;exact⟨this.1,by omega⟩
 ·intro a x hx
  rcases hblk a x hx with⟨rfl,h1,h2⟩|⟨_,h1⟩
  ·exact Or.inr h1
  ·exact Or.inl ⟨a,h1⟩
theorem PDocO.setVer (h:PDocO B w g c row I L V W p) (hn6:c.n≤6) {l:Nat} (hl:l<c.n) (x:Nat):PDocO B (w.setCell ⟨g,161+l,none⟩ (.int .i64 x)) g c row I L (updF V l x) W ⟨p.rv,p.pv,⟨p.nw.lg,updF p.nw.vs l x,p.nw.wt⟩⟩∧PStep c.n g p w ⟨p.rv,p.pv,⟨p.nw.lg,updF p.nw.vs l x,p.nw.wt⟩⟩ (w.setCell ⟨g,161+l,none⟩ (.int .i64 x)):=by
 have hblk:∀ a x',pblk c.n g ⟨p.rv,p.pv,⟨p.nw.lg,updF p.nw.vs l x,p.nw.wt⟩⟩ a=some x'→pblk c.n g p a=some x':=by
  intro a x' hx
  cases a <;> exact hx
 have ho:Only (fun b=>∃ a,pblk c.n g p a=some b) w (w.setCell ⟨g,161+l,none⟩ (.int .i64 x)):=(Only.refl _ w).setCell ⟨.box,rfl⟩
 refine⟨⟨h.box.setVer (by omega) (fun i _=>rfl),h.rules.setOther (fun b hb=>h.ne (a:=.rules) (by simp) hb),h.cells.setOther (fun b hb=>h.ne (a:=.cells) (by simp) hb),fun i hi=>(h.logs i hi).setOther (fun b hb=>h.neLog hi hb),fun i hi=>?_,fun i hi=>(h.waits i hi).setOther (fun b hb=>h.neWait hi hb),fun a b x' ha hb=>h.apart a b x' (hblk a x' ha) (hblk b x' hb),fun a x' hx=>?_⟩,ho,fun a x' hx=>Or.inl ⟨a,hblk a x' hx⟩⟩
 ·show updF p.nw.vs l x i=updF V l x i
  unfold updF
  by_cases hil:i=l
  ·rw [if_pos hil,if_pos hil]
  ·rw [if_neg hil,if_neg hil];exact h.vers i hi
 ·have:=h.low a x' (hblk a x' hx)
  exact⟨this.1,Nat.lt_of_lt_of_le this.2 ho.size⟩
theorem PDocO.setLog (h:PDocO B w g c row I L V W p) (hn6:c.n≤6) {l:Nat} (hl:l<c.n) {v1:Value} {x:List Rec} (hown:OwnL 97 3 recV w1 B v1 x) (ho:Only (fun k=>(p.nw.lg l).ownBlock=some k) w w1) (hv:∀ b,v1.ownBlock=some b→(p.nw.lg l).ownBlock=some b∨w.heap.size≤b) :
  PDocO B (w1.setCell ⟨g,118+l,none⟩ v1) g c row I (updF L l x) V W ⟨p.rv,p.pv,⟨updF p.nw.lg l v1,p.nw.vs,p.nw.wt⟩⟩∧PStep c.n g p w ⟨p.rv,p.pv,⟨updF p.nw.lg l v1,p.nw.vs,p.nw.wt⟩⟩ (w1.setCell ⟨g,118+l,none⟩ v1):=by
 have hF:∀ a,a≠PT.log l→∀ x,pblk c.n g p a=some x→¬ (p.nw.lg l).ownBlock=some x:=fun a ha x hx e=>ha (h.apart a (.log l) x hx (by rw [pblk_log hl];exact e))
 have hblk:∀ a x',pblk c.n g ⟨p.rv,p.pv,⟨updF p.nw.lg l v1,p.nw.vs,p.nw.wt⟩⟩ a=some x'→(a=.log l∧v1.ownBlock=some x')∨(a≠.log l∧pblk c.n g p a=some x'):=by
  intro a x' hx
  cases a with
  | log i=>
   obtain⟨hi,hx⟩:=pblk_log' hx
   by_cases hil:i=l
   ·subst hil
    have hx:(updF p.nw.lg i v1 i).ownBlock=some x':=hx
    rw [updF_same] at hx
    exact Or.inl ⟨rfl,hx⟩
   ·have hx:(updF p.nw.lg l v1 i).ownBlock=some x':=hx
    rw [updF_other _ _ hil] at hx
    exact Or.inr ⟨by simpa using hil,by rw [pblk_log hi];exact hx⟩
  | box=>exact Or.inr ⟨by simp,hx⟩
  | rules=>exact Or.inr ⟨by simp,hx⟩
  | cells=>exact Or.inr ⟨by simp,hx⟩
  | wait i=>exact Or.inr ⟨by simp,hx⟩
 have hgw:=h.box.lt
 have hs:=ho.size
 have hv1g:∀ b,v1.ownBlock=some b→b≠g:=fun b hb=>by
  rcases hv b hb with h1|h1
  ·exact h.neLog hl h1
  ·omega
 have ho2:Only (fun b=>∃ a,pblk c.n g p a=some b) w (w1.setCell ⟨g,118+l,none⟩ v1):=(show Only (fun b=>∃ a,pblk c.n g p a=some b) w w1 from ⟨ho.os,ho.tape,ho.output,ho.size,fun k hk hn=>ho.block k hk (fun e=>hn ⟨.log l,by rw [pblk_log hl];exact e⟩)⟩).setCell ⟨.box,rfl⟩
 have hb1:PBox w1 g c.n (tT c) p.rv (grF c) p.pv I p.nw:=h.box.kept (ho.block g hgw (hF .box (by simp) g rfl))
 refine⟨⟨hb1.setLog (by omega) (fun i _=>rfl),(h.rules.only ho (fun b hb=>hF .rules (by simp) b hb)).setOther (fun b hb=>h.ne (a:=.rules) (by simp) hb),(h.cells.only ho (fun b hb=>hF .cells (by simp) b hb)).setOther (fun b hb=>h.ne (a:=.cells) (by simp) hb),?_,h.vers,(fun i hi=>(h.waits i hi |>.only ho (fun b hb=>hF (.wait i) (by simp) b (by rw [pblk_wait hi];exact hb))).setOther (fun b hb=>h.neWait hi hb)),?_,?_⟩,ho2,?_⟩
 ·intro i hi
  by_cases hil:i=l
  ·subst hil
   show OwnL 97 3 recV _ B (updF p.nw.lg i v1 i) (updF L i x i)
   rw [updF_same,updF_same]
   exact hown.setOther hv1g
  ·show OwnL 97 3 recV _ B (updF p.nw.lg l v1 i) (updF L l x i)
   rw [updF_other _ _ hil,updF_other _ _ hil]
   exact ((h.logs i hi).only ho (fun b hb=>hF (.log i) (by simpa using hil) b (by rw [pblk_log hi];exact hb))).setOther (fun b hb=>h.neLog hi hb)
 ·intro a b x' ha hb
  rcases hblk a x' ha with⟨rfl,h1⟩|⟨ha',h1⟩
  ·rcases hblk b x' hb with⟨rfl,_⟩|⟨hb',h2⟩
   ·rfl
   ·rcases hv x' h1 with h3|h3
    ·exact absurd h3 (hF b hb' x' h2)
    ·have:=(h.low b x' h2).2;omega
  ·rcases hblk b x' hb with⟨rfl,h2⟩|⟨_,h2⟩
   ·rcases hv x' h2 with h3|h3
    ·exact absurd h3 (hF a ha' x' h1)
    ·have:=(h.low a x' h1).2;omega
   ·exact h.apart a b x' h1 h2
 ·intro a x' hx
  have h2s:=ho2.size
  have h3s:w1.heap.size≤(w1.setCell ⟨g,118+l,none⟩ v1).heap.size:=((Only.refl (fun _=>True) w1).setCell trivial).size
  rcases hblk a x' hx with⟨rfl,h1⟩|⟨_,h1⟩
  ·have:=hown.lt h1;exact⟨this.1,Nat.lt_of_lt_of_le this.2 h3s⟩
  ·have:=h.low a x' h1;exact⟨this.1,Nat.lt_of_lt_of_le this.2 h2s⟩
 ·intro a x' hx
  rcases hblk a x' hx with⟨rfl,h1⟩|⟨_,h1⟩
  ·exact (hv x' h1).imp (fun h=>⟨.log l,by rw [pblk_log hl];exact h⟩) id
  ·exact Or.inl ⟨a,h1⟩
theorem PDocO.setWait (h:PDocO B w g c row I L V W p) (hn6:c.n≤6) {l:Nat} (hl:l<c.n) {v1:Value} {x:List No} (hown:OwnL 100 2 noV w1 B v1 x) (ho:Only (fun k=>(p.nw.wt l).ownBlock=some k) w w1) (hv:∀ b,v1.ownBlock=some b→(p.nw.wt l).ownBlock=some b∨w.heap.size≤b) :
  PDocO B (w1.setCell ⟨g,167+l,none⟩ v1) g c row I L V (updF W l x) ⟨p.rv,p.pv,⟨p.nw.lg,p.nw.vs,updF p.nw.wt l v1⟩⟩∧PStep c.n g p w ⟨p.rv,p.pv,⟨p.nw.lg,p.nw.vs,updF p.nw.wt l v1⟩⟩ (w1.setCell ⟨g,167+l,none⟩ v1):=by
 have hF:∀ a,a≠PT.wait l→∀ x,pblk c.n g p a=some x→¬ (p.nw.wt l).ownBlock=some x:=fun a ha x hx e=>ha (h.apart a (.wait l) x hx (by rw [pblk_wait hl];exact e))
 have hblk:∀ a x',pblk c.n g ⟨p.rv,p.pv,⟨p.nw.lg,p.nw.vs,updF p.nw.wt l v1⟩⟩ a=some x'→(a=.wait l∧v1.ownBlock=some x')∨(a≠.wait l∧pblk c.n g p a=some x'):=by
  intro a x' hx
  cases a with
  | wait i=>
   obtain⟨hi,hx⟩:=pblk_wait' hx
   by_cases hil:i=l
   ·subst hil
    have hx:(updF p.nw.wt i v1 i).ownBlock=some x':=hx
    rw [updF_same] at hx
    exact Or.inl ⟨rfl,hx⟩
   ·have hx:(updF p.nw.wt l v1 i).ownBlock=some x':=hx
    rw [updF_other _ _ hil] at hx
    exact Or.inr ⟨by simpa using hil,by rw [pblk_wait hi];exact hx⟩
  | box=>exact Or.inr ⟨by simp,hx⟩
  | rules=>exact Or.inr ⟨by simp,hx⟩
  | cells=>exact Or.inr ⟨by simp,hx⟩
  | log i=>exact Or.inr ⟨by simp,hx⟩
 have hgw:=h.box.lt
 have hs:=ho.size
 have hv1g:∀ b,v1.ownBlock=some b→b≠g:=fun b hb=>by
  rcases hv b hb with h1|h1
  ·exact h.neWait hl h1
  ·omega
 have ho2:Only (fun b=>∃ a,pblk c.n g p a=some b) w (w1.setCell ⟨g,167+l,none⟩ v1):=(show Only (fun b=>∃ a,pblk c.n g p a=some b) w w1 from ⟨ho.os,ho.tape,ho.output,ho.size,fun k hk hn=>ho.block k hk (fun e=>hn ⟨.wait l,by rw [pblk_wait hl];exact e⟩)⟩).setCell ⟨.box,rfl⟩
 have hb1:PBox w1 g c.n (tT c) p.rv (grF c) p.pv I p.nw:=h.box.kept (ho.block g hgw (hF .box (by simp) g rfl))
 refine⟨⟨hb1.setWait (by omega) (fun i _=>rfl),(h.rules.only ho (fun b hb=>hF .rules (by simp) b hb)).setOther (fun b hb=>h.ne (a:=.rules) (by simp) hb),(h.cells.only ho (fun b hb=>hF .cells (by simp) b hb)).setOther (fun b hb=>h.ne (a:=.cells) (by simp) hb),(fun i hi=>(h.logs i hi |>.only ho (fun b hb=>hF (.log i) (by simp) b (by rw [pblk_log hi];exact hb))).setOther (fun b hb=>h.neLog hi hb)),h.vers,?_,?_,?_⟩,ho2,?_⟩
 ·intro i hi
  by_cases hil:i=l
  ·subst hil
   show OwnL 100 2 noV _ B (updF p.nw.wt i v1 i) (updF W i x i)
   rw [updF_same,updF_same]
   exact hown.setOther hv1g
  ·show OwnL 100 2 noV _ B (updF p.nw.wt l v1 i) (updF W l x i)
   rw [updF_other _ _ hil,updF_other _ _ hil]
   exact ((h.waits i hi).only ho (fun b hb=>hF (.wait i) (by simpa using hil) b (by rw [pblk_wait hi];exact hb))).setOther (fun b hb=>h.neWait hi hb)
 ·intro a b x' ha hb
  rcases hblk a x' ha with⟨rfl,h1⟩|⟨ha',h1⟩
  ·rcases hblk b x' hb with⟨rfl,_⟩|⟨hb',h2⟩
   ·rfl
   ·rcases hv x' h1 with h3|h3
    ·exact absurd h3 (hF b hb' x' h2)
    ·have:=(h.low b x' h2).2;omega
  ·rcases hblk b x' hb with⟨rfl,h2⟩|⟨_,h2⟩
   ·rcases hv x' h2 with h3|h3
    ·exact absurd h3 (hF a ha' x' h1)
    ·have:=(h.low a x' h1).2;omega
   ·exact h.apart a b x' h1 h2
 ·intro a x' hx
  have h2s:=ho2.size
  have h3s:w1.heap.size≤(w1.setCell ⟨g,167+l,none⟩ v1).heap.size:=((Only.refl (fun _=>True) w1).setCell trivial).size
  rcases hblk a x' hx with⟨rfl,h1⟩|⟨_,h1⟩
  ·have:=hown.lt h1;exact⟨this.1,Nat.lt_of_lt_of_le this.2 h3s⟩
  ·have:=h.low a x' h1;exact⟨this.1,Nat.lt_of_lt_of_le this.2 h2s⟩
 ·intro a x' hx
  rcases hblk a x' hx with⟨rfl,h1⟩|⟨_,h1⟩
  ·exact (hv x' h1).imp (fun h=>⟨.wait l,by rw [pblk_wait hl];exact h⟩) id
  ·exact Or.inl ⟨a,h1⟩
theorem PDocO.congr (h:PDocO B w g c row I L V W p) {I':Nat→Nat} {L':Nat→List Rec} {V':Nat→Nat} {W':Nat→List No} (hI:I'=I) (hL:∀ i,i<c.n→L' i=L i) (hV:∀ i,i<c.n→V' i=V i) (hW:∀ i,i<c.n→W' i=W i):PDocO B w g c row I' L' V' W' p:=
 ⟨hI ▸ h.box,h.rules,h.cells,fun i hi=>by rw [hL i hi];exact h.logs i hi,fun i hi=>by rw [hV i hi];exact h.vers i hi,fun i hi=>by rw [hW i hi];exact h.waits i hi,h.apart,h.low⟩
theorem PDocO.setOther (h:PDocO B w g c row I L V W p) {b i:Nat} {u:Value} (hb:∀ a,pblk c.n g p a≠some b):PDocO B (w.setCell ⟨b,i,none⟩ u) g c row I L V W p:=h.only (F:=fun k=>k=b) ((Only.refl _ w).setCell rfl) (fun a x hx e=>hb a (by rw [← e];exact hx))
end
end Go.Proofs.YtgigkiocdiffjaaGreat
namespace Go.Proofs.YtgigkiocdiffjaaGreat
open Go.RowKit Veil
def fullP (l:List No):Bool:=decide (4≤l.length) || (decide (0<l.length) && ((l.getD 0 ⟨1,0⟩).kind == 0))
structure WOk (l:List No):Prop where
 len:l.length≤4
 one:(l.getD 0 ⟨1,0⟩).kind=0→l.length=1
def addW (l:List No) (a:No):List No:=bif fullB l then [⟨0,-1⟩] else l++[a]
theorem fullP_eq {l:List No} (h:WOk l):fullP l=fullB l:=by
 unfold fullP fullB
 cases hk:((l.getD 0 ⟨1,0⟩).kind == 0)
 ·simp
 ·have h1:=h.one (by simpa using hk)
  simp [h1]
theorem WOk.nil:WOk []:=⟨by simp,by simp⟩
theorem addW_ok {l:List No} {a:No} (h:WOk l) (ha:a.kind≠0):WOk (addW l a):=by
 unfold addW
 cases hf:fullB l
 ·have h4:¬ 4≤l.length:=fun h4=>by rw [fullB] at hf;simp [h4] at hf
  simp only [cond_false]
  refine⟨by simp;omega,fun h0=>?_⟩
  cases l with
  | nil=>exact absurd (by simpa using h0) ha
  | cons b t=>
   have hb:b.kind=0:=by simpa using h0
   have h1:=h.one (by simpa using hb)
   exfalso
   simp only [List.length_cons] at h1
   simp [fullB,h1,hb] at hf
 ·exact⟨by simp,by simp⟩
theorem nwFull_any (l:List No) (v:Value) (B:Nat) (w:World) (h:OwnL 100 2 noV w B v l) (hl:l.length≤4):Calls Tryz.prog 154 #[v] w fun e w'=>e=.returned (.bool (fullP l))∧w=w':=by
 have HD:=hide (show fullP l=(decide (4≤l.length) || (decide (0<l.length) && ((l.getD 0 ⟨1,0⟩).kind == 0))) from rfl)
 obtain⟨ao,cap,rfl⟩:=h.shape
 have HO:=hide h
 clear h
 by_cases h4:4≤l.length
 ·have h4':(4:Int)≤(l.length:Int):=by omega
  go_enter Tryz.func154,Tryz.ntmps154
  go_wp2
  go_ret
  exact⟨ret_bool (by rw [HD.out];simp [h4]),rfl⟩
 ·have h4':decide ((4:Int)≤(l.length:Int))=false:=by simp;omega
  by_cases h0:0<l.length
  ·obtain⟨gl,cl,hvv,_,hgl2⟩:=HO.out.form (by omega)
   simp only [Value.slice.injEq] at hvv
   obtain⟨rfl,_,rfl⟩:=hvv
   have hej:l[0]?=some (l[0]'(by omega)):=List.getElem?_eq_getElem (by omega)
   have y0:=HO.out.cell (show ∀ a,(noV a).length=2 from fun _=>rfl) rfl hej (j:=0) (by omega)
   have HG0:=hide (show l.getD 0 ⟨1,0⟩=l[0]'(by omega) by simp [List.getD,hej])
   generalize (l[0]'(by omega))=q at *
   obtain⟨qk,qw⟩:=q
   have y0':w.cell? ⟨gl,0,none⟩=some (.int .i64 qk):=y0
   have h0':(0:Int)<(l.length:Int):=by omega
   have H0:=hide h0
   have H4:=hide h4
   clear hej y0 h0 h4
   go_enter Tryz.func154,Tryz.ntmps154
   go_wp2
   go_ret
   exact⟨ret_bool (by rw [HD.out,HG0.out];simp [H0.out,H4.out]),rfl⟩
  ·have h0':decide ((0:Int)<(l.length:Int))=false:=by rw [decide_eq_false_iff_not];omega
   have H0:=hide h0
   have H4:=hide h4
   clear h0 h4
   go_enter Tryz.func154,Tryz.ntmps154
   go_wp2
   go_ret
   exact⟨ret_bool (by rw [HD.out];simp [H0.out,H4.out]),rfl⟩
theorem nwAdd_any {B g:Nat} {w:World} {c:Cfg} {row:List RC} {I:Nat→Nat} {L:Nat→List Rec} {V:Nat→Nat} {W:Nat→List No} {p:PV} (hdoc:PDocO B w g c row I L V W p) (hn6:c.n≤6) (j:Nat) (hj:j<c.n) (k b:Int) (hW:WOk (W j)) (hB:B≤w.heap.size) :
  Calls Tryz.prog 114 #[.pointer (some ⟨g,124,none⟩),.int .i64 j,.agg #[.int .i64 k,.int .i64 b]] w fun e w'=>e=.returned (.tuple #[])∧∃ p',PDocO B w' g c row I L V (updF W j (addW (W j) ⟨k,b⟩)) p'∧PStep c.n g p w p' w':=by
 have hbx:=below_box w (.cells #[.int .i64 k,.int .i64 b] 100)
 have HDOC:=hide hdoc
 have hgl:=hdoc.box.lt
 have HF:=hide (nwFull_any (W j) (p.nw.wt j) B (w.alloc (.cells #[.int .i64 k,.int .i64 b] 100)) ((hdoc.waits j hj).below hbx) hW.len)
 rw [fullP_eq hW] at HF
 have HBX:=hide (hdoc.box.below hbx hgl)
 have HNB:=hide (Go.heap_alloc_new w (.cells #[.int .i64 k,.int .i64 b] 100))
 have m2:=HBX.out.wait j (by omega)
 have fz:=HBX.out.frozen (167+j)
 have hji:(j:Int)<6:=by omega
 have HOW:=hide ((hdoc.waits j hj).below hbx)
 have HAD:=hide (show addW (W j) ⟨k,b⟩=bif fullB (W j) then [⟨0,-1⟩] else W j++[⟨k,b⟩] from rfl)
 have HMF:=hide (show ∀ x,(p.nw.wt j).ownBlock=some x→x≠g∧x≠w.heap.size from fun x hx=>⟨hdoc.neWait hj hx,fun e=>by have:=((hdoc.waits j hj).lt hx).2;omega⟩)
 have hlen:=hW.len
 obtain⟨ao,cap,hvv⟩:=(hdoc.waits j hj).shape
 have HVV:=hide hvv
 generalize hWj:W j=Wj at *
 cases hf:fullB Wj
 case true=>
  rw [hf] at HF
  have HAT:=hide (show addW Wj ⟨k,b⟩=[⟨0,-1⟩] by rw [HAD.out,hf];rfl)
  have HOR:=hide (own_one 100 2 noV (w.alloc (.cells #[.int .i64 k,.int .i64 b] 100)) B ⟨0,-1⟩ rfl (by simp;omega))
  have hb2:Below w.heap.size w ((w.alloc (.cells #[.int .i64 k,.int .i64 b] 100)).alloc (.cells #[.int .i64 0,.int .i64 (-1)] 100)):=hbx.alloc hbx.size _
  obtain⟨n1,n2⟩:=HDOC.out.setWait hn6 hj HOR.out (Only.of_below hb2) (fun x hx=>Or.inr (by
   have:(w.alloc (.cells #[.int .i64 k,.int .i64 b] 100)).heap.size=x:=Option.some.inj hx
   simp at this;omega))
  have hsz:(w.alloc (.cells #[.int .i64 k,.int .i64 b] 100)).heap.size=w.heap.size+1:=by simp
  rw [hsz,World.setCell_alloc_past _ _ _ _ (by rw [hsz];omega),World.setCell_alloc_past _ _ _ _ hgl] at n1 n2
  have HN1:=hide n1
  have HN2:=hide n2
  have fz2:((w.alloc (.cells #[.int .i64 k,.int .i64 b] 100)).alloc (.cells #[.int .i64 0,.int .i64 (-1)] 100)).frozen? ⟨g,167+j,none⟩=false:=(HDOC.out.box.below hb2 hgl).frozen _
  have m3:=(HDOC.out.box.below hb2 hgl).wait j (by omega)
  clear hdoc n1 n2 hf hlen hWj hW hvv hsz
  go_enter Tryz.func114,Tryz.ntmps114
  go_wp2_with fail
  refine (HF.out).mono ?_
  rintro e w1 ⟨rfl,rfl⟩
  go_wp2
  exact bodyPost_ret (results_none rfl _ _ _) rfl ⟨rfl,_,by rw [HAT.out];exact HN1.out,HN2.out⟩
 case false=>
  rw [hf] at HF
  have HAT:=hide (show addW Wj ⟨k,b⟩=Wj++[⟨k,b⟩] by rw [HAD.out,hf];rfl)
  clear hdoc hf hWj hW hvv
  go_enter Tryz.func114,Tryz.ntmps114
  go_wp2_with fail
  refine (HF.out).mono ?_
  rintro e w1 ⟨rfl,rfl⟩
  generalize hwb:w.alloc (.cells #[.int .i64 k,.int .i64 b] 100)=wb at *
  have hgo:g<wb.heap.size:=HBX.out.lt
  have hgne:g≠w.heap.size:=Nat.ne_of_lt hgl
  have hgne':w.heap.size≠g:=Nat.ne_of_gt hgl
  have hbxo:w.heap.size<wb.heap.size:=lt_of_row HNB.out
  have x0:wb.cell? ⟨w.heap.size,0,none⟩=some (.int .i64 k):=(cell_of_row _ _ _ _ _ _ HNB.out).trans rfl
  have x1:wb.cell? ⟨w.heap.size,1,none⟩=some (.int .i64 b):=(cell_of_row _ _ _ _ _ _ HNB.out).trans rfl
  have hbA:Below wb.heap.size wb (wb.drew.alloc (.cells #[.int .i64 k,.int .i64 b] 100)):=(below_drew wb).alloc (Nat.le_refl _) _
  have HOA:=hide (HOW.out.below hbA)
  have HNA:=hide (Go.heap_alloc_new wb.drew (.cells #[.int .i64 k,.int .i64 b] 100))
  clear hwb
  go_wp2_with fail
  refine wp_region_held_drew (S:=(fun w'=>w'.cell? ⟨w.heap.size,0,none⟩=some (.int .i64 k)∧w'.cell? ⟨w.heap.size,1,none⟩=some (.int .i64 b))) (by kernel_rfl) ?_ (fun hHeld=>?_)
  ·(try dsimp only);go_keep
  refine tV 0 20 ?_
  (try simp only [Act.put,lA,lZ,lS])
  refine tV 1 21 ?_
  (try simp only [Act.put,lA,lZ,lS])
  refine tV 2 22 ?_
  (try simp only [Act.put,lA,lZ,lS])
  refine tV 3 23 ?_
  (try simp only [Act.put,lA,lZ,lS])
  refine tV 4 24 ?_
  (try simp only [Act.put,lA,lZ,lS])
  refine tV 5 25 ?_
  (try simp only [Act.put,lA,lZ,lS])
  refine tV 6 26 ?_
  (try simp only [Act.put,lA,lZ,lS])
  refine tV 8 28 ?_
  (try simp only [Act.put,lA,lZ,lS])
  refine tV 11 31 ?_
  (try simp only [Act.put,lA,lZ,lS])
  refine tV 12 32 ?_
  (try simp only [Act.put,lA,lZ,lS])
  refine wpAnyH_ready (rs:=[7,9]) (by kernel_rfl) (by simp) ?_
  refine AllReadyH.cons rfl (fun K hK=>?_) (AllReadyH.cons rfl (fun K hK=>?_) AllReadyH.nil)
  ·go_simp
   refine hK.out _ _ ?_ (fun hHeld=>?_)
   ·(try dsimp only);go_keep
   clear hK K
   refine wpAnyH_ready (rs:=[9]) (by kernel_rfl) (by simp) ?_
   refine AllReadyH.cons rfl (fun K hK=>?_) AllReadyH.nil
   go_simp
   refine hK.out _ _ ?_ (fun hHeld=>?_)
   ·(try dsimp only);go_keep
   clear hK K
   refine wpAnyH_ready (rs:=[10]) (by kernel_rfl) (by simp) ?_
   refine AllReadyH.cons rfl (fun K hK=>?_) AllReadyH.nil
   refine step_push rfl (.tmp 27) (.tmp 29) 79 rfl (.agg #[.int .i64 0,.int .i64 0]) 16 Tryz.underlying79 Tryz.infoNotice rfl (by decide) rfl HOA.out wb.heap.size 1 ⟨k,b⟩ rfl 100 (0,0) HNA.out rfl (by intro u hu;simp [noV] at hu;rcases hu with rfl|rfl <;> rfl) (by omega) (by decide) (by simp;omega) (wb.heap.size+1) (by simp) ?_;intro g6 cap6 w6 hown6 hgrow6 hat6 hlt6;have z0:=(hgrow6.cell_far ⟨w.heap.size,0,none⟩ (by simp;omega) (fun e=>(HMF.out _ e.symm).2 rfl)).trans ((hbA.cell (p:=⟨w.heap.size,0,none⟩) hbxo).trans x0);have z1:=(hgrow6.cell_far ⟨w.heap.size,1,none⟩ (by simp;omega) (fun e=>(HMF.out _ e.symm).2 rfl)).trans ((hbA.cell (p:=⟨w.heap.size,1,none⟩) hbxo).trans x1);have z6:=(hgrow6.cell_far ⟨g,167+j,none⟩ (by simp;omega) (fun e=>(HMF.out _ e.symm).1 rfl)).trans ((hbA.cell (p:=⟨g,167+j,none⟩) hgo).trans m2);have z7:w6.frozen? ⟨g,167+j,none⟩=false:=by (rw [hgrow6.frozen_far ⟨g,167+j,none⟩ (by simp;omega) (fun e=>(HMF.out _ e.symm).1 rfl)];exact (HBX.out.below hbA hgo).frozen _)
   refine hK.out _ _ ?_ (fun hHeld=>?_)
   ·(try dsimp only);go_keep
   clear hK K
   refine tV 13 33 ?_
   (try simp only [Act.put,List.setIfInBounds_toArray])
   refine wpAnyH_ready (rs:=[14]) (by kernel_rfl) (by simp) ?_
   refine AllReadyH.cons rfl (fun K hK=>?_) AllReadyH.nil
   go_simp
   refine hK.out _ _ ?_ (fun hHeld=>?_)
   ·(try dsimp only);go_keep
   clear hK K
   refine wpAnyH_done (by kernel_rfl) ?_ _
   have hg7:Only (fun k=>(p.nw.wt j).ownBlock=some k) w w6:=(Only.of_below (F:=fun k=>(p.nw.wt j).ownBlock=some k) (hbx.trans (hbA.mono hbx.size))).trans (F':=fun k=>(p.nw.wt j).ownBlock=some k) ⟨hgrow6.os,hgrow6.tape,hgrow6.output,hgrow6.size,fun k hk hn=>hgrow6.block k hk (fun e=>hn e.symm)⟩ (fun k h=>Or.inl h)
   obtain⟨n1,n2⟩:=HDOC.out.setWait hn6 hj hown6 hg7 (fun b hb=>by
     obtain rfl:g6=b:=Option.some.inj hb
     rcases hat6 with h|h
     ·exact Or.inl h
     ·exact Or.inr (by omega))
   have HN1:=hide n1
   have HN2:=hide n2
   clear n1 n2
   go_wp2
   go_end0
   exact⟨rfl,_,by rw [HAT.out];exact HN1.out,HN2.out⟩
  ·go_simp
   refine hK.out _ _ ?_ (fun hHeld=>?_)
   ·(try dsimp only);go_keep
   clear hK K
   refine wpAnyH_ready (rs:=[7]) (by kernel_rfl) (by simp) ?_
   refine AllReadyH.cons rfl (fun K hK=>?_) AllReadyH.nil
   go_simp
   refine hK.out _ _ ?_ (fun hHeld=>?_)
   ·(try dsimp only);go_keep
   clear hK K
   refine wpAnyH_ready (rs:=[10]) (by kernel_rfl) (by simp) ?_
   refine AllReadyH.cons rfl (fun K hK=>?_) AllReadyH.nil
   refine step_push rfl (.tmp 27) (.tmp 29) 79 rfl (.agg #[.int .i64 0,.int .i64 0]) 16 Tryz.underlying79 Tryz.infoNotice rfl (by decide) rfl HOA.out wb.heap.size 1 ⟨k,b⟩ rfl 100 (0,0) HNA.out rfl (by intro u hu;simp [noV] at hu;rcases hu with rfl|rfl <;> rfl) (by omega) (by decide) (by simp;omega) (wb.heap.size+1) (by simp) ?_;intro g6 cap6 w6 hown6 hgrow6 hat6 hlt6;have z0:=(hgrow6.cell_far ⟨w.heap.size,0,none⟩ (by simp;omega) (fun e=>(HMF.out _ e.symm).2 rfl)).trans ((hbA.cell (p:=⟨w.heap.size,0,none⟩) hbxo).trans x0);have z1:=(hgrow6.cell_far ⟨w.heap.size,1,none⟩ (by simp;omega) (fun e=>(HMF.out _ e.symm).2 rfl)).trans ((hbA.cell (p:=⟨w.heap.size,1,none⟩) hbxo).trans x1);have z6:=(hgrow6.cell_far ⟨g,167+j,none⟩ (by simp;omega) (fun e=>(HMF.out _ e.symm).1 rfl)).trans ((hbA.cell (p:=⟨g,167+j,none⟩) hgo).trans m2);have z7:w6.frozen? ⟨g,167+j,none⟩=false:=by (rw [hgrow6.frozen_far ⟨g,167+j,none⟩ (by simp;omega) (fun e=>(HMF.out _ e.symm).1 rfl)];exact (HBX.out.below hbA hgo).frozen _)
   refine hK.out _ _ ?_ (fun hHeld=>?_)
   ·(try dsimp only);go_keep
   clear hK K
   refine tV 13 33 ?_
   (try simp only [Act.put,List.setIfInBounds_toArray])
   refine wpAnyH_ready (rs:=[14]) (by kernel_rfl) (by simp) ?_
   refine AllReadyH.cons rfl (fun K hK=>?_) AllReadyH.nil
   go_simp
   refine hK.out _ _ ?_ (fun hHeld=>?_)
   ·(try dsimp only);go_keep
   clear hK K
   refine wpAnyH_done (by kernel_rfl) ?_ _
   have hg7:Only (fun k=>(p.nw.wt j).ownBlock=some k) w w6:=(Only.of_below (F:=fun k=>(p.nw.wt j).ownBlock=some k) (hbx.trans (hbA.mono hbx.size))).trans (F':=fun k=>(p.nw.wt j).ownBlock=some k) ⟨hgrow6.os,hgrow6.tape,hgrow6.output,hgrow6.size,fun k hk hn=>hgrow6.block k hk (fun e=>hn e.symm)⟩ (fun k h=>Or.inl h)
   obtain⟨n1,n2⟩:=HDOC.out.setWait hn6 hj hown6 hg7 (fun b hb=>by
     obtain rfl:g6=b:=Option.some.inj hb
     rcases hat6 with h|h
     ·exact Or.inl h
     ·exact Or.inr (by omega))
   have HN1:=hide n1
   have HN2:=hide n2
   clear n1 n2
   go_wp2
   go_end0
   exact⟨rfl,_,by rw [HAT.out];exact HN1.out,HN2.out⟩
end Go.Proofs.YtgigkiocdiffjaaGreat
