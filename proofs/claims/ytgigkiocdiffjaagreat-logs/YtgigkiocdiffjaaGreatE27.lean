import Derived.Test.YtgigkiocdiffjaaGreatE23
import Derived.Test.YtgigkiocdiffjaaGreatE02
import Derived.SizedLaws
import Derived.Deep.Slices
set_option maxRecDepth 100000
set_option maxHeartbeats 16000000
namespace Go.Proofs.YtgigkiocdiffjaaGreat
open Go.RowKit Veil
theorem step_match (o:OpR) (g:Nat) (w:World) (hk:o.kind=5) (hs:o.s.size≤maxLen) (ht:o.t.size≤140737488355328) :
  Calls Tryz.prog 18 #[.pointer (some ⟨g,0,none⟩),.agg o.cells] w fun e w''=>e=.returned (.bool true)∧Below w.heap.size w w'':=by
 obtain⟨kind,a,b,c,d,e0,s,t⟩:=o
 simp only at hk hs ht
 subst hk
 have htm:t.size≤maxLen:=by unfold maxLen;omega
 unfold OpR.cells
 cases hv:validB s
 ·go_enter Tryz.func18,Tryz.ntmps18
  go_wp2_with fail
  refine (match_no s t _ hv hs).mono ?_
  rintro e w1 ⟨rfl,rfl⟩
  go_wp2_with fail
  refine (rMatch_no s t _ hv hs).mono ?_
  rintro e w1 ⟨rfl,rfl⟩
  go_wp2
  go_ret
  exact⟨rfl,(Below.refl _ _).alloc (Nat.le_refl _) _⟩
 ·go_enter Tryz.func18,Tryz.ntmps18
  go_wp2_with fail
  refine (match_yes s t _ hv htm).mono ?_
  rintro e w1 ⟨rfl,hb1⟩
  have hsz:w.heap.size<w1.heap.size:=by have:=hb1.size;simp at this;omega
  have h6:w1.cell? ⟨w.heap.size,6,none⟩=some (.string s):=by rw [hb1.cell (p:=⟨w.heap.size,6,none⟩) (by simp)];simp
  have h7:w1.cell? ⟨w.heap.size,7,none⟩=some (.string t):=by rw [hb1.cell (p:=⟨w.heap.size,7,none⟩) (by simp)];simp
  go_wp2_with fail
  refine (rMatch_yes s t _ hv ht).mono ?_
  rintro e w2 ⟨rfl,hb2⟩
  have HB:=hide (((Below.refl w.heap.size w).alloc (Nat.le_refl _) _).trans ((hb1.mono (by simp)).trans (hb2.mono (by omega))))
  clear hb1 hb2 h6 h7
  go_wp2
  go_ret
  exact⟨rfl,HB.out⟩
end Go.Proofs.YtgigkiocdiffjaaGreat
namespace Go.Proofs.YtgigkiocdiffjaaGreat
open Go.RowKit Go.Deep Veil
theorem Tryz.cellsInt:Tryz.prog.cellsOf 3=1:=by kernel_rfl
theorem Tryz.cellsStr:Tryz.prog.cellsOf 9=1:=by kernel_rfl
theorem add_plain {b o j:Nat}:(⟨b,o,none⟩:Addr).add j=⟨b,o+j,none⟩:=by unfold Addr.add;split <;> simp_all
theorem spot_none {w:World} {a:Addr} {v:Value} (h:w.cell? (a.add 0)=some v):a=⟨a.block,a.off,none⟩:=by
 obtain⟨b,o,sp⟩:=a
 have:sp=none:=by simpa [Addr.add] using World.cell?_spot h
 subst this;rfl
section
variable {H:Type}
theorem all_le_mem {l:List Nat} (h:l.all (·≤reachBytes)=true) {n:Nat} (hn:n ∈ l):n≤reachBytes:=by
 simpa using List.all_eq_true.1 h n hn
theorem weights_mem_all {e:TypeId} {ds:List (DataW H)} {d:DataW H} (hd:d ∈ ds):∀ n ∈ d.weights Tryz.prog e,n ∈ DataW.weightsAll Tryz.prog e ds:=by
 induction ds with
 | nil=>cases hd
 | cons y r ih=>
  intro n hn
  rw [DataW.weightsAll]
  rcases List.mem_cons.1 hd with rfl|hd
  ·exact List.mem_append_left _ hn
  ·exact List.mem_append_right _ (ih hd n hn)
end
end Go.Proofs.YtgigkiocdiffjaaGreat
namespace Go.Proofs.YtgigkiocdiffjaaGreat
open Go.RowKit Go.Deep Veil
theorem Tryz.cellsOp:Tryz.prog.cellsOf 57=8:=by kernel_rfl
theorem Tryz.bytesOp:Tryz.prog.bytesOf 57=80:=by kernel_rfl
section
variable {H:Type} {enc:TypeId × Value→H} {w:World} {spare:Nat→Bool} {held:Bool}
theorem open_op {n:Nat} {cs:List Value} {x:DataW H × List MemPlace} (h:DataW.trod enc Tryz.prog w 0 spare held n 57 cs=some x) (hz:(x.1.weights Tryz.prog 57).all (·≤reachBytes)=true) :
  ∃ o:OpR,cs=o.cells.toList∧o.s.size≤maxLen∧o.s.size≤reachBytes∧o.t.size≤maxLen∧o.t.size≤reachBytes∧-9223372036854775808≤o.a∧o.a≤9223372036854775807:=by
 obtain⟨xs,m,_,rfl,hl,hlen,hf⟩:=DataW.trod_struct Tryz.underlying57 h
 rw [Tryz.cellsOp] at hl
 match cs,hl,xs,hlen with
 | [c0,c1,c2,c3,c4,c5,c6,c7],_,[x0,x1,x2,x3,x4,x5,x6,x7],_=>
  have f0:=hf 0 _ rfl
  have f1:=hf 1 _ rfl
  have f2:=hf 2 _ rfl
  have f3:=hf 3 _ rfl
  have f4:=hf 4 _ rfl
  have f5:=hf 5 _ rfl
  have f6:=hf 6 _ rfl
  have f7:=hf 7 _ rfl
  simp [Tryz.cellsInt,Tryz.cellsStr] at f0 f1 f2 f3 f4 f5 f6 f7
  obtain⟨n0,e0,rfl,_⟩:=DataW.trod_int Tryz.underlying3 f0
  obtain⟨n1,e1,rfl,w1⟩:=DataW.trod_int Tryz.underlying3 f1
  obtain⟨n2,e2,rfl,_⟩:=DataW.trod_int Tryz.underlying3 f2
  obtain⟨n3,e3,rfl,_⟩:=DataW.trod_int Tryz.underlying3 f3
  obtain⟨n4,e4,rfl,_⟩:=DataW.trod_int Tryz.underlying3 f4
  obtain⟨n5,e5,rfl,_⟩:=DataW.trod_int Tryz.underlying3 f5
  obtain⟨s6,e6,rfl,h6⟩:=DataW.trod_string Tryz.underlying9 f6
  obtain⟨s7,e7,rfl,h7⟩:=DataW.trod_string Tryz.underlying9 f7
  simp only [List.cons.injEq,and_true] at e0 e1 e2 e3 e4 e5 e6 e7
  subst e0 e1 e2 e3 e4 e5 e6 e7
  simp only [Lit.wf,Bool.and_eq_true,decide_eq_true_eq,show IntKind.min .i64=-9223372036854775808 from rfl,show IntKind.max .i64=9223372036854775807 from rfl] at w1
  refine⟨⟨n0,n1,n2,n3,n4,n5,s6,s7⟩,rfl,h6,?_,h7,?_,w1⟩
  all_goals
   simp [DataW.weights,DataW.weightsEach,Tryz.underlying57] at hz
   first|exact hz.1|exact hz.2
end
end Go.Proofs.YtgigkiocdiffjaaGreat
namespace Go.Proofs.YtgigkiocdiffjaaGreat
open Go.RowKit Go.Deep Veil
section
variable {H:Type} {enc:TypeId × Value→H} {w:World} {spare:Nat→Bool} {held:Bool}
theorem open_ops2 {fuel:Nat} {ao:Option Addr} {n cap:Nat} {x:DataW H × List MemPlace} (h:DataW.trod enc Tryz.prog w 0 spare held fuel 23 [.slice ao n cap]=some x) (hz:(x.1.weights Tryz.prog 23).all (·≤reachBytes)=true) :
  ∃ ops:Nat→OpR,OpsAt w ao n ops∧n≤1759218604441∧∀ i,i<n→(ops i).s.size≤maxLen∧(ops i).s.size≤140737488355328∧(ops i).t.size≤maxLen∧(ops i).t.size≤140737488355328∧-9223372036854775808≤(ops i).a∧(ops i).a≤9223372036854775807:=by
 rcases open_slice Tryz.underlying23 h with⟨h0,_⟩|⟨a,len,cp,m,k,D,Pl,hv,_,hl,hm,hmm,rfl,hx⟩
 ·simp only [List.cons.injEq,Value.slice.injEq,and_true] at h0
  obtain⟨rfl,rfl,rfl⟩:=h0
  exact⟨fun _=>⟨0,0,0,0,0,0,ByteArray.empty,ByteArray.empty⟩,Or.inl rfl,by omega,fun i hi=>absurd hi (by omega)⟩
 ·simp only [List.cons.injEq,Value.slice.injEq,and_true] at hv
  obtain⟨rfl,rfl,rfl⟩:=hv
  rw [Tryz.cellsOp] at hx
  have hlm:n≤m:=by rw [hmm];split <;> omega
  have hw:((DataW.slice ((List.range n).map D) ((List.range (m-n)).map fun j=>D (n+j)):DataW H).weights Tryz.prog 23)=(n+(m-n))*80 :: (DataW.weightsAll Tryz.prog 57 ((List.range n).map D)++DataW.weightsAll Tryz.prog 57 ((List.range (m-n)).map fun j=>D (n+j))):=by
   simp [DataW.weights,Tryz.underlying23,Tryz.bytesOp]
  rw [hw] at hz
  have hn:n≤1759218604441:=by
   have:=all_le_mem hz (List.mem_cons_self ..)
   simp only [reachBytes] at this;omega
  have hel:∀ i,i<n→∃ o:OpR,(∀ j,j<8→w.cell? ((a.add (i*8)).add j)=o.cells[j]?)∧o.s.size≤maxLen∧o.s.size≤140737488355328∧o.t.size≤maxLen∧o.t.size≤140737488355328∧-9223372036854775808≤o.a∧o.a≤9223372036854775807:=by
   intro i hi
   obtain⟨cs',h1,h2⟩:=hx i (by omega)
   obtain⟨_,hlen,hc⟩:=World.cells?_some h1
   obtain⟨o,rfl,q1,q2,q3,q4,q5⟩:=open_op h2 (by
    rw [List.all_eq_true]
    intro y hy
    have:y ∈ DataW.weightsAll Tryz.prog 57 ((List.range n).map D):=weights_mem_all (d:=D i) (List.mem_map.2 ⟨i,by simpa using hi,rfl⟩) y hy
    have:=all_le_mem hz (List.mem_cons_of_mem _ (List.mem_append_left _ this))
    simpa using this)
   refine⟨o,fun j hj=>by rw [hc j hj];simp,q1,?_,q3,?_,q5⟩
   ·simp only [reachBytes] at q2;omega
   ·simp only [reachBytes] at q4;omega
  haveI:Inhabited OpR:=⟨⟨0,0,0,0,0,0,ByteArray.empty,ByteArray.empty⟩⟩
  obtain⟨ops,hops⟩:=choose_lt hel
  refine⟨ops,?_,hn,fun i hi=>(hops i hi).2⟩
  by_cases h0:n=0
  ·exact Or.inl h0
  ·right
   have hc:=(hops 0 (by omega)).1 0 (by omega)
   rw [Nat.zero_mul,add_add] at hc
   have hc':w.cell? (a.add 0)=some (.int .i64 (ops 0).kind):=hc
   have ha:=spot_none hc'
   refine⟨a.block,a.off,congrArg some ha,?_,fun i hi j hj=>?_⟩
   ·have hb:=Go.block_lt_of_cell hc'
    rw [ha] at hb
    simpa [add_plain] using hb
   ·have:=(hops i hi).1 j hj
    rw [add_add,ha,add_plain] at this
    rw [← this];congr 2;omega
end
end Go.Proofs.YtgigkiocdiffjaaGreat
namespace Go.Proofs.YtgigkiocdiffjaaGreat
open Go.RowKit Go.Deep Veil
theorem Tryz.cellsEdge:Tryz.prog.cellsOf 169=2:=by kernel_rfl
theorem Tryz.cellsRule:Tryz.prog.cellsOf 163=2:=by kernel_rfl
theorem Tryz.cellsGrant:Tryz.prog.cellsOf 166=2:=by kernel_rfl
theorem Tryz.cellsConfig:Tryz.prog.cellsOf 31=4:=by kernel_rfl
theorem Tryz.cellsEdges:Tryz.prog.cellsOf 27=1:=by kernel_rfl
theorem Tryz.cellsRules:Tryz.prog.cellsOf 28=1:=by kernel_rfl
theorem Tryz.cellsGrants:Tryz.prog.cellsOf 29=1:=by kernel_rfl
theorem Tryz.bytesEdge:Tryz.prog.bytesOf 169=16:=by kernel_rfl
theorem Tryz.bytesRule:Tryz.prog.bytesOf 163=24:=by kernel_rfl
theorem Tryz.bytesGrant:Tryz.prog.bytesOf 166=16:=by kernel_rfl
theorem Tryz.bytesConfig:Tryz.prog.bytesOf 31=80:=by kernel_rfl
section
variable {H:Type} {enc:TypeId × Value→H} {w:World} {spare:Nat→Bool} {held:Bool}
theorem open_edge {n:Nat} {cs:List Value} {x:DataW H × List MemPlace} (h:DataW.trod enc Tryz.prog w 0 spare held n 169 cs=some x):∃ p:Int × Int,cs=[xE p,yE p]:=by
 obtain⟨xs,m,_,rfl,hl,hlen,hf⟩:=DataW.trod_struct Tryz.underlying169 h
 rw [Tryz.cellsEdge] at hl
 match cs,hl,xs,hlen with
 | [c0,c1],_,[x0,x1],_=>
  have f0:=hf 0 _ rfl
  have f1:=hf 1 _ rfl
  simp [Tryz.cellsInt] at f0 f1
  obtain⟨n0,e0,rfl,_⟩:=DataW.trod_int Tryz.underlying3 f0
  obtain⟨n1,e1,rfl,_⟩:=DataW.trod_int Tryz.underlying3 f1
  simp only [List.cons.injEq,and_true] at e0 e1
  subst e0 e1
  exact⟨(n0,n1),rfl⟩
theorem open_grant {n:Nat} {cs:List Value} {x:DataW H × List MemPlace} (h:DataW.trod enc Tryz.prog w 0 spare held n 166 cs=some x):∃ p:Int × Int,cs=[xE p,yE p]:=by
 obtain⟨xs,m,_,rfl,hl,hlen,hf⟩:=DataW.trod_struct Tryz.underlying166 h
 rw [Tryz.cellsGrant] at hl
 match cs,hl,xs,hlen with
 | [c0,c1],_,[x0,x1],_=>
  have f0:=hf 0 _ rfl
  have f1:=hf 1 _ rfl
  simp [Tryz.cellsInt] at f0 f1
  obtain⟨n0,e0,rfl,_⟩:=DataW.trod_int Tryz.underlying3 f0
  obtain⟨n1,e1,rfl,_⟩:=DataW.trod_int Tryz.underlying3 f1
  simp only [List.cons.injEq,and_true] at e0 e1
  subst e0 e1
  exact⟨(n0,n1),rfl⟩
theorem open_rule {n:Nat} {cs:List Value} {x:DataW H × List MemPlace} (h:DataW.trod enc Tryz.prog w 0 spare held n 163 cs=some x) (hz:(x.1.weights Tryz.prog 163).all (·≤reachBytes)=true):∃ p:ByteArray × Int,cs=[xR p,yR p]∧p.1.size≤140737488355328:=by
 obtain⟨xs,m,_,rfl,hl,hlen,hf⟩:=DataW.trod_struct Tryz.underlying163 h
 rw [Tryz.cellsRule] at hl
 match cs,hl,xs,hlen with
 | [c0,c1],_,[x0,x1],_=>
  have f0:=hf 0 _ rfl
  have f1:=hf 1 _ rfl
  simp [Tryz.cellsInt,Tryz.cellsStr] at f0 f1
  obtain⟨s0,e0,rfl,_⟩:=DataW.trod_string Tryz.underlying9 f0
  obtain⟨n1,e1,rfl,_⟩:=DataW.trod_int Tryz.underlying3 f1
  simp only [List.cons.injEq,and_true] at e0 e1
  subst e0 e1
  refine⟨(s0,n1),rfl,?_⟩
  simp [DataW.weights,DataW.weightsEach,Tryz.underlying163] at hz
  simp only [reachBytes] at hz
  simp only
  omega
theorem open_seq {α:Type} [Inhabited α] (x y:α→Value) (Q:α→Prop) {t e:TypeId} (bytes:Nat) (ht:Tryz.prog.underlying t=some (.slice e)) (hcells:Tryz.prog.cellsOf e=2) (hbytes:Tryz.prog.bytesOf e=bytes) (hb16:16≤bytes)
  (hopen:∀ n cs (z:DataW H × List MemPlace),DataW.trod enc Tryz.prog w 0 spare held n e cs=some z→(z.1.weights Tryz.prog e).all (·≤reachBytes)=true→∃ p:α,cs=[x p,y p]∧Q p)
  {fuel:Nat} {ao:Option Addr} {n cap:Nat} {z:DataW H × List MemPlace} (h:DataW.trod enc Tryz.prog w 0 spare held fuel t [.slice ao n cap]=some z) (hz:(z.1.weights Tryz.prog t).all (·≤reachBytes)=true) :
  ∃ l:List α,l.length=n∧SeqAt x y w ao l∧n≤8796093022208∧(∀ p,p ∈ l→Q p)∧(ao=none→n=0∧cap=0)∧n≤cap:=by
 rcases open_slice ht h with⟨h0,_⟩|⟨a,len,cp,m,k,D,Pl,hv,_,hl,hm,hmm,rfl,hx⟩
 ·simp only [List.cons.injEq,Value.slice.injEq,and_true] at h0
  obtain⟨rfl,rfl,rfl⟩:=h0
  exact⟨[],rfl,Or.inl rfl,by omega,(fun p hp=>by simp at hp),fun _=>⟨rfl,rfl⟩,Nat.le_refl _⟩
 ·simp only [List.cons.injEq,Value.slice.injEq,and_true] at hv
  obtain⟨rfl,rfl,rfl⟩:=hv
  rw [hcells] at hx
  have hlm:n≤m:=by rw [hmm];split <;> omega
  have hw:((DataW.slice ((List.range n).map D) ((List.range (m-n)).map fun j=>D (n+j)):DataW H).weights Tryz.prog t)=(n+(m-n))*bytes :: (DataW.weightsAll Tryz.prog e ((List.range n).map D)++DataW.weightsAll Tryz.prog e ((List.range (m-n)).map fun j=>D (n+j))):=by
   simp [DataW.weights,ht,hbytes]
  rw [hw] at hz
  have hn:n≤8796093022208:=by
   have:=all_le_mem hz (List.mem_cons_self ..)
   have h2:n*16≤(n+(m-n))*bytes:=Nat.mul_le_mul (by omega) hb16
   simp only [reachBytes] at this;omega
  have hel:∀ i,i<n→∃ p:α,(w.cell? ((a.add (i*2)).add 0)=some (x p)∧w.cell? ((a.add (i*2)).add 1)=some (y p))∧Q p:=by
   intro i hi
   obtain⟨cs',h1,h2⟩:=hx i (by omega)
   obtain⟨_,hlen,hc⟩:=World.cells?_some h1
   obtain⟨p,rfl,hq⟩:=hopen _ _ _ h2 (by
    rw [List.all_eq_true]
    intro y' hy
    have:y' ∈ DataW.weightsAll Tryz.prog e ((List.range n).map D):=weights_mem_all (d:=D i) (List.mem_map.2 ⟨i,by simpa using hi,rfl⟩) y' hy
    have:=all_le_mem hz (List.mem_cons_of_mem _ (List.mem_append_left _ this))
    simpa using this)
   exact⟨p,⟨by rw [hc 0 (by omega)];rfl,by rw [hc 1 (by omega)];rfl⟩,hq⟩
  obtain⟨f,hf⟩:=choose_lt hel
  refine⟨(List.range n).map f,by simp,?_,hn,fun p hp=>?_,(fun h=>by simp at h),hl⟩
  ·by_cases h0:n=0
   ·exact Or.inl (by simp [h0])
   ·right
    have hc:=(hf 0 (by omega)).1.1
    rw [Nat.zero_mul,add_add] at hc
    have ha:=spot_none hc
    refine⟨a.block,a.off,congrArg some ha,?_,fun i p hi=>?_⟩
    ·have hb:=Go.block_lt_of_cell hc
     rw [ha] at hb
     simpa [add_plain] using hb
    ·have hi':i<n:=by
      have:=(List.getElem?_eq_some_iff.1 hi).1
      simpa using this
     have hp:f i=p:=by simpa [hi'] using hi
     subst hp
     obtain⟨⟨q0,q1⟩,_⟩:=hf i hi'
     rw [add_add,ha,add_plain] at q0 q1
     constructor
     ·rw [← q0];rfl
     ·rw [← q1];congr 2
  ·obtain⟨i,hi,rfl⟩:=List.mem_map.1 hp
   exact (hf i (by simpa using hi)).2
theorem open_config {n:Nat} {cs:List Value} {x:DataW H × List MemPlace} (h:DataW.trod enc Tryz.prog w 0 spare held n 31 cs=some x) (hz:(x.1.weights Tryz.prog 31).all (·≤reachBytes)=true) :
  ∃ p:Cfg × CfgV,cs=(cfgCells p.1 p.2).toList∧CfgOk p.1∧CfgAt w p.1 p.2∧CfgNil p.1 p.2∧p.1.rules.length≤p.2.rc:=by
 obtain⟨xs,m,_,rfl,hl,hlen,hf⟩:=DataW.trod_struct Tryz.underlying31 h
 rw [Tryz.cellsConfig] at hl
 match cs,hl,xs,hlen with
 | [c0,c1,c2,c3],_,[x0,x1,x2,x3],_=>
  have f0:=hf 0 _ rfl
  have f1:=hf 1 _ rfl
  have f2:=hf 2 _ rfl
  have f3:=hf 3 _ rfl
  simp [Tryz.cellsInt,Tryz.cellsEdges,Tryz.cellsRules,Tryz.cellsGrants] at f0 f1 f2 f3
  obtain⟨n0,e0,rfl,_⟩:=DataW.trod_int Tryz.underlying3 f0
  simp only [List.cons.injEq,and_true] at e0
  subst e0
  have hzz:(x1.1.weights Tryz.prog 27).all (·≤reachBytes)=true∧(x2.1.weights Tryz.prog 28).all (·≤reachBytes)=true∧(x3.1.weights Tryz.prog 29).all (·≤reachBytes)=true:=by
   simpa [DataW.weights,DataW.weightsEach,Tryz.underlying31,List.all_append] using hz
  obtain⟨z1,z2,z3⟩:=hzz
  have g1:∃ a k cp,c1=.slice a k cp:=by
   rcases open_slice Tryz.underlying27 f1 with⟨h0,_⟩|⟨a,len,cp,_,_,_,_,hv,_⟩
   ·exact⟨_,_,_,(List.cons.inj h0).1⟩
   ·exact⟨_,_,_,(List.cons.inj hv).1⟩
  have g2:∃ a k cp,c2=.slice a k cp:=by
   rcases open_slice Tryz.underlying28 f2 with⟨h0,_⟩|⟨a,len,cp,_,_,_,_,hv,_⟩
   ·exact⟨_,_,_,(List.cons.inj h0).1⟩
   ·exact⟨_,_,_,(List.cons.inj hv).1⟩
  have g3:∃ a k cp,c3=.slice a k cp:=by
   rcases open_slice Tryz.underlying29 f3 with⟨h0,_⟩|⟨a,len,cp,_,_,_,_,hv,_⟩
   ·exact⟨_,_,_,(List.cons.inj h0).1⟩
   ·exact⟨_,_,_,(List.cons.inj hv).1⟩
  obtain⟨a1,k1,p1,rfl⟩:=g1
  obtain⟨a2,k2,p2,rfl⟩:=g2
  obtain⟨a3,k3,p3,rfl⟩:=g3
  obtain⟨E,rfl,sE,bE,_,nE,_⟩:=open_seq xE yE (fun _=>True) 16 Tryz.underlying27 Tryz.cellsEdge Tryz.bytesEdge (by omega) (fun n cs z hh _=>by obtain⟨p,hp⟩:=open_edge hh;exact⟨p,hp,trivial⟩) f1 z1
  obtain⟨R,rfl,sR,bR,tR,nR,lR⟩:=open_seq xR yR (fun p=>p.1.size≤140737488355328) 24 Tryz.underlying28 Tryz.cellsRule Tryz.bytesRule (by omega) (fun n cs z hh hw=>open_rule hh hw) f2 z2
  obtain⟨G,rfl,sG,bG,_,nG,_⟩:=open_seq xE yE (fun _=>True) 16 Tryz.underlying29 Tryz.cellsGrant Tryz.bytesGrant (by omega) (fun n cs z hh _=>by obtain⟨p,hp⟩:=open_grant hh;exact⟨p,hp,trivial⟩) f3 z3
  exact⟨(⟨n0,E,R,G⟩,⟨a1,p1,a2,p2,a3,p3⟩),rfl,⟨bE,bR,bG,tR⟩,⟨sE,sR,sG⟩,⟨nE,nR,nG⟩,lR⟩
end
end Go.Proofs.YtgigkiocdiffjaaGreat
