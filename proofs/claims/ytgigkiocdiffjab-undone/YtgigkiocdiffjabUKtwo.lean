import Derived.Test.YtgigkiocdiffjabU32
set_option maxRecDepth 100000
set_option maxHeartbeats 16000000
namespace Go.Proofs.Ytgigkiocdiffjab
open Go.RowKit Veil
def Two (F:Nat→Prop) (B:Nat) (w:World) (ga gb:Nat) (c:Cfg) (s s':PSt) (ka kb:Nat):Prop:=
 ∃ pa pb,PInv B w ga c s pa ka∧PInv B w gb c s' pb kb∧(∀ x i j,pblk c.n ga pa i=some x→pblk c.n gb pb j=some x→False)∧∀ x,F x→x<w.heap.size∧(∀ i,pblk c.n ga pa i=some x→False)∧∀ j,pblk c.n gb pb j=some x→False
structure LeftF (F:Nat→Prop) (B:Nat) (w w':World):Prop where
 low:Below B w w'
 kept:∀ x,F x→w'.heap[x]?=w.heap[x]?
section
variable {F F':Nat→Prop} {B ga gb ka kb g k:Nat} {w w' w'':World} {c:Cfg} {s s' s1:PSt} {p:PV}
theorem LeftF.refl (F:Nat→Prop) (B:Nat) (w:World):LeftF F B w w:=⟨Below.refl _ _,fun _ _=>rfl⟩
theorem LeftF.trans (h:LeftF F B w w') (h':LeftF F B w' w''):LeftF F B w w'':=⟨h.low.trans h'.low,fun x hx=>(h'.kept x hx).trans (h.kept x hx)⟩
theorem LeftF.sub (h:LeftF F B w w') (hF:∀ x,F' x→F x):LeftF F' B w w':=⟨h.low,fun x hx=>h.kept x (hF x hx)⟩
theorem LeftF.below (hb:Below w.heap.size w w') (hB:B≤w.heap.size) (hF:∀ x,F x→x<w.heap.size):LeftF F B w w':=⟨hb.mono hB,fun x hx=>hb.block x (hF x hx)⟩
theorem Two.swap (h:Two F B w ga gb c s s' ka kb):Two F B w gb ga c s' s kb ka:=by
 obtain⟨pa,pb,h1,h2,h3,h4⟩:=h
 exact⟨pb,pa,h2,h1,fun x i j hi hj=>h3 x j i hj hi,fun x hx=>⟨(h4 x hx).1,(h4 x hx).2.2,(h4 x hx).2.1⟩⟩
theorem Two.below (h:Two F B w ga gb c s s' ka kb) (hb:Below w.heap.size w w'):Two F B w' ga gb c s s' ka kb:=by
 obtain⟨pa,pb,h1,h2,h3,h4⟩:=h
 exact⟨pa,pb,h1.below hb,h2.below hb,h3,fun x hx=>⟨Nat.lt_of_lt_of_le (h4 x hx).1 hb.size,(h4 x hx).2⟩⟩
theorem Two.sub (h:Two F B w ga gb c s s' ka kb) (hF:∀ x,F' x→F x):Two F' B w ga gb c s s' ka kb:=by
 obtain⟨pa,pb,h1,h2,h3,h4⟩:=h
 exact⟨pa,pb,h1,h2,h3,fun x hx=>h4 x (hF x hx)⟩
theorem Two.new (h:Two F B w ga gb c s s' ka kb) (hb:Below w.heap.size w w') (hF:∀ x,F' x→F x∨(w.heap.size≤x∧x<w'.heap.size)):Two F' B w' ga gb c s s' ka kb:=by
 obtain⟨pa,pb,h1,h2,h3,h4⟩:=h
 refine⟨pa,pb,h1.below hb,h2.below hb,h3,fun x hx=>?_⟩
 rcases hF x hx with h5|h5
 ·exact⟨Nat.lt_of_lt_of_le (h4 x h5).1 hb.size,(h4 x h5).2⟩
 ·refine⟨h5.2,fun i hi=>?_,fun j hj=>?_⟩
  ·have:=(h1.own.low i x hi).2
   omega
  ·have:=(h2.own.low j x hj).2
   omega
theorem Two.old (h:Two F B w ga gb c s s' ka kb):B≤w.heap.size:=by
 obtain⟨pa,pb,h1,h2,h3,h4⟩:=h
 exact h1.old
theorem Two.lt (h:Two F B w ga gb c s s' ka kb):∀ x,F x→x<w.heap.size:=by
 obtain⟨pa,pb,h1,h2,h3,h4⟩:=h
 exact fun x hx=>(h4 x hx).1
theorem Two.right (h:Two F B w ga gb c s s' ka kb):CfgRight c:=by
 obtain⟨pa,pb,h1,h2,h3,h4⟩:=h
 exact h1.right
theorem PRes.low (h:PInv B w g c s p k) (hr:PRes B w g c p k s1 w'):Below B w w':=by
 obtain⟨p',h1,h2⟩:=hr
 exact h2.1.below (fun x ⟨a,ha⟩=>(h.own.low a x ha).1) h.old
theorem PRes.left (h:PInv B w g c s p k) (hF:∀ x,F x→x<w.heap.size∧∀ i,pblk c.n g p i=some x→False) (hr:PRes B w g c p k s1 w'):LeftF F B w w':=by
 refine⟨PRes.low h hr,fun x hx=>?_⟩
 obtain⟨p',h1,h2⟩:=hr
 exact h2.1.block x (hF x hx).1 (fun ⟨a,ha⟩=>(hF x hx).2 a ha)
theorem two_res {pa pb:PV} (h2:PInv B w gb c s' pb kb) (h3:∀ x i j,pblk c.n ga pa i=some x→pblk c.n gb pb j=some x→False) (h4:∀ x,F x→x<w.heap.size∧(∀ i,pblk c.n ga pa i=some x→False)∧∀ j,pblk c.n gb pb j=some x→False) (hr:PRes B w ga c pa ka s1 w'):Two F B w' ga gb c s1 s' (ka+1) kb:=by
 obtain⟨p',r1,r2⟩:=hr
 refine⟨p',pb,r1,h2.only r2.1 (fun a x ha ⟨b,hb⟩=>h3 x b a hb ha),fun x i j hi hj=>?_,fun x hx=>⟨Nat.lt_of_lt_of_le (h4 x hx).1 r2.1.size,fun i hi=>?_,(h4 x hx).2.2⟩⟩
 ·rcases r2.2 i x hi with⟨b,hb⟩|h5
  ·exact h3 x b j hb hj
  ·have:=(h2.own.low j x hj).2
   omega
 ·rcases r2.2 i x hi with⟨b,hb⟩|h5
  ·exact (h4 x hx).2.1 b hb
  ·have:=(h4 x hx).1
   omega
theorem two_same {pa pb:PV} (h1:PInv B w ga c s pa ka) (h2:PInv B w gb c s' pb kb) (h3:∀ x i j,pblk c.n ga pa i=some x→pblk c.n gb pb j=some x→False) (h4:∀ x,F x→x<w.heap.size∧(∀ i,pblk c.n ga pa i=some x→False)∧∀ j,pblk c.n gb pb j=some x→False) (hr:PRes B w ga c pa ka s w'):Two F B w' ga gb c s s' ka kb:=by
 obtain⟨p',p'',r1,r2,r3,r4⟩:=two_res h2 h3 h4 hr
 exact⟨p',p'',⟨r1.own,r1.right,h1.good,r1.no35,r1.wok,r1.lok,h1.ver,r1.old⟩,r2,r3,r4⟩
theorem two_does (h:Two F B w ga gb c s s' ka kb) (hk:ka≤4000000000000) (o:KS) (hos:o.text.size≤140737488355328) :
  Calls Try.prog 9 #[.pointer (some ⟨ga,0,none⟩),.agg o.cells] w fun e w'=>∃ vl,e=.returned (.agg (toldC (stepAns c s o).e (stepAns c s o).n (stepAns c s o).s vl))∧OwnL 3 1 inV w' w.heap.size vl (stepAns c s o).l∧Two F B w' ga gb c (stepSt c s o) s' (ka+1) kb∧LeftF F B w w':=by
 obtain⟨pa,pb,h1,h2,h3,h4⟩:=h
 refine Calls.mono (does_any h1 hk o hos) ?_
 rintro e w' ⟨vl,rfl,ho,hr⟩
 exact⟨vl,rfl,ho,two_res h2 h3 h4 hr,PRes.left h1 (fun x hx=>⟨(h4 x hx).1,(h4 x hx).2.1⟩) hr⟩
theorem two_both (h:Two F B w ga gb c s s' ka kb) (hk:ka≤4000000000000) (hk':kb≤4000000000000) (o:KS) (hos:o.text.size≤140737488355328) :
  Calls Try.prog 9 #[.pointer (some ⟨ga,0,none⟩),.agg o.cells] w fun e w1=>∃ vt,e=.returned (.agg (toldC (stepAns c s o).e (stepAns c s o).n (stepAns c s o).s vt))∧(∃ ao n cap,vt=.slice ao n cap)∧Two F B w1 ga gb c (stepSt c s o) s' (ka+1) kb∧LeftF F B w w1 ∧
   ∀ w2,Below w1.heap.size w1 w2→∀ o':KS,o'.text.size≤140737488355328→Calls Try.prog 9 #[.pointer (some ⟨gb,0,none⟩),.agg o'.cells] w2 fun e w3=>∃ vu,e=.returned (.agg (toldC (stepAns c s' o').e (stepAns c s' o').n (stepAns c s' o').s vu))∧(∃ ao n cap,vu=.slice ao n cap)∧OwnL 3 1 inV w3 w.heap.size vt (stepAns c s o).l∧OwnL 3 1 inV w3 w2.heap.size vu (stepAns c s' o').l∧Two F B w3 ga gb c (stepSt c s o) (stepSt c s' o') (ka+1) (kb+1)∧LeftF F B w w3∧w2.heap.size≤w3.heap.size∧∀ x,w.heap.size≤x→x<w2.heap.size→w3.heap[x]?=w2.heap[x]?:=by
 obtain⟨pa,pb,h1,h2,h3,h4⟩:=h
 refine Calls.mono (does_any h1 hk o hos) ?_
 rintro e w1 ⟨vt,rfl,ho,hr⟩
 have hl1:LeftF F B w w1:=PRes.left h1 (fun x hx=>⟨(h4 x hx).1,(h4 x hx).2.1⟩) hr
 refine⟨vt,rfl,(by obtain⟨a,b,hab⟩:=ho.shape;exact⟨a,_,b,hab⟩),two_res h2 h3 h4 hr,hl1,fun w2 hb o' hos'=>?_⟩
 obtain⟨pa',pb',r1,g2,g3,g4⟩:∃ pa' pb',PInv B w1 ga c (stepSt c s o) pa' (ka+1)∧PInv B w1 gb c s' pb kb∧(∀ x i j,pblk c.n gb pb i=some x→pblk c.n ga pa' j=some x→False)∧(pb'=pb∧∀ x,F x→x<w1.heap.size∧(∀ i,pblk c.n gb pb i=some x→False)∧∀ i,pblk c.n ga pa' i=some x→False):=by
  obtain⟨pa',r1,r2⟩:=hr
  refine⟨pa',pb,r1,h2.only r2.1 (fun a x ha ⟨b,hb⟩=>h3 x b a hb ha),fun x i j hi hj=>?_,rfl,fun x hx=>⟨Nat.lt_of_lt_of_le (h4 x hx).1 r2.1.size,(h4 x hx).2.2,fun i hi=>?_⟩⟩
  ·rcases r2.2 j x hj with⟨b,hb⟩|h5
   ·exact h3 x b i hb hi
   ·have:=(h2.own.low i x hi).2
    omega
  ·rcases r2.2 i x hi with⟨b,hb⟩|h5
   ·exact (h4 x hx).2.1 b hb
   ·have:=(h4 x hx).1
    omega
 have g5:=g4.2
 have hlt:∀ x,F x→x<w2.heap.size:=fun x hx=>Nat.lt_of_lt_of_le (g5 x hx).1 hb.size
 refine Calls.mono (does_any (g2.below hb) hk' o' hos') ?_
 rintro e w3 ⟨vu,rfl,hu,hr'⟩
 have hl:LeftF F B w2 w3:=PRes.left (g2.below hb) (fun x hx=>⟨hlt x hx,(g5 x hx).2.1⟩) hr'
 refine⟨vu,rfl,(by obtain⟨a,b,hab⟩:=hu.shape;exact⟨a,_,b,hab⟩),?_,hu,(two_res (r1.below hb) g3 (fun x hx=>⟨hlt x hx,(g5 x hx).2⟩) hr').swap,?_⟩
 ·obtain⟨pb2,_,t2⟩:=hr'
  refine (ho.below hb).only t2.1 (fun x hx ⟨a,ha⟩=>?_)
  have:=((ho.below hb).lt hx).1
  have:=(h2.own.low a x ha).2
  omega
 ·refine⟨hl1.trans ((LeftF.below hb r1.old (fun x hx=>(g5 x hx).1)).trans hl),hl.low.size,fun x hx1 hx2=>?_⟩
  obtain⟨pb2,_,t2⟩:=hr'
  refine t2.1.block x hx2 (fun ⟨a,ha⟩=>?_)
  have:=(h2.own.low a x ha).2
  omega
end
end Go.Proofs.Ytgigkiocdiffjab
