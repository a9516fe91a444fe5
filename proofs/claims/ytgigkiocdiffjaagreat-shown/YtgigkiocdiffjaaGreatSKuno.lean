import Derived.Test.YtgigkiocdiffjaaGreatS32
set_option maxRecDepth 100000
set_option maxHeartbeats 16000000
namespace Go.Proofs.YtgigkiocdiffjaaGreat
open Go.RowKit Veil
def One (F:Nat→Prop) (B:Nat) (w:World) (g:Nat) (c:Cfg) (s:PSt) (k:Nat):Prop:=
 ∃ p,PInv B w g c s p k∧∀ x,F x→x<w.heap.size∧∀ i,pblk c.n g p i=some x→False
section
variable {F F':Nat→Prop} {B g k:Nat} {w w' w'':World} {c:Cfg} {s s':PSt}
theorem One.below (h:One F B w g c s k) (hb:Below w.heap.size w w'):One F B w' g c s k:=by
 obtain⟨p,h1,h2⟩:=h
 exact⟨p,h1.below hb,fun x hx=>⟨Nat.lt_of_lt_of_le (h2 x hx).1 hb.size,(h2 x hx).2⟩⟩
theorem One.sub (h:One F B w g c s k) (hF:∀ x,F' x→F x):One F' B w g c s k:=by
 obtain⟨p,h1,h2⟩:=h
 exact⟨p,h1,fun x hx=>h2 x (hF x hx)⟩
theorem One.new (h:One F B w g c s k) (hb:Below w.heap.size w w') (hF:∀ x,F' x→F x∨(w.heap.size≤x∧x<w'.heap.size)):One F' B w' g c s k:=by
 obtain⟨p,h1,h2⟩:=h
 refine⟨p,h1.below hb,fun x hx=>?_⟩
 rcases hF x hx with h5|h5
 ·exact⟨Nat.lt_of_lt_of_le (h2 x h5).1 hb.size,(h2 x h5).2⟩
 ·refine⟨h5.2,fun i hi=>?_⟩
  have:=(h1.own.low i x hi).2
  omega
theorem One.old (h:One F B w g c s k):B≤w.heap.size:=by
 obtain⟨p,h1,h2⟩:=h
 exact h1.old
theorem One.lt (h:One F B w g c s k):∀ x,F x→x<w.heap.size:=by
 obtain⟨p,h1,h2⟩:=h
 exact fun x hx=>(h2 x hx).1
theorem One.right (h:One F B w g c s k):CfgRight c:=by
 obtain⟨p,h1,h2⟩:=h
 exact h1.right
theorem One.rowGood (h:One F B w g c s k):RowGood c s.row:=by
 obtain⟨p,h1,h2⟩:=h
 exact h1.rowGood
theorem One.logs (h:One F B w g c s k):∀ i,i<c.n→(s.L i).length≤8:=by
 obtain⟨p,h1,h2⟩:=h
 exact h1.lok
theorem One.vers (h:One F B w g c s k):∀ i,i<c.n→s.V i≤k:=by
 obtain⟨p,h1,h2⟩:=h
 exact h1.ver
theorem one_res {p:PV} (h1:PInv B w g c s p k) (h2:∀ x,F x→x<w.heap.size∧∀ i,pblk c.n g p i=some x→False) (hr:PRes B w g c p k s' w'):One F B w' g c s' (k+1)∧LeftF F B w w':=by
 refine⟨?_,PRes.left h1 h2 hr⟩
 obtain⟨p',r1,r2⟩:=hr
 refine⟨p',r1,fun x hx=>⟨Nat.lt_of_lt_of_le (h2 x hx).1 r2.1.size,fun i hi=>?_⟩⟩
 rcases r2.2 i x hi with⟨b,hb⟩|h5
 ·exact (h2 x hx).2 b hb
 ·have:=(h2 x hx).1
  omega
theorem one_does (h:One F B w g c s k) (hk:k≤4000000000000) (o:KS) (hos:o.text.size≤140737488355328) :
  Calls Tryz.prog 15 #[.pointer (some ⟨g,0,none⟩),.agg o.cells] w fun e w'=>∃ vl,e=.returned (.agg (toldC (stepAns c s o).e (stepAns c s o).n (stepAns c s o).s vl))∧(∃ ao n cap,vl=.slice ao n cap)∧One F B w' g c (stepSt c s o) (k+1)∧LeftF F B w w':=by
 obtain⟨p,h1,h2⟩:=h
 refine Calls.mono (does_any h1 hk o hos) ?_
 rintro e w' ⟨vl,rfl,ho,hr⟩
 obtain⟨r1,r2⟩:=one_res h1 h2 hr
 exact⟨vl,rfl,(by obtain⟨a,b,hab⟩:=ho.shape;exact⟨a,_,b,hab⟩),r1,r2⟩
theorem one_view (h:One F B w g c s k) (lv:Nat) (hlv:lv<c.n) :
  Calls Tryz.prog 23 #[.pointer (some ⟨g,0,none⟩),.int .i64 lv] w fun e w'=>e=.returned (.tuple #[.string (viewT (placesR c s.row lv)),.int .i64 0])∧Below w.heap.size w w':=by
 obtain⟨p,h1,h2⟩:=h
 exact dcView_ok c s.row g _ _ p.rv p.pv _ _ _ B lv w h1.own.box h1.own.rules h1.own.cells rfl rfl h1.right h1.rowGood hlv
end
end Go.Proofs.YtgigkiocdiffjaaGreat
