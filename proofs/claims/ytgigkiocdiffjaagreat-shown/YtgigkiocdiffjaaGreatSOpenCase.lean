import Derived.Test.YtgigkiocdiffjaaGreatS17
import Derived.Test.YtgigkiocdiffjaaGreatS29
import Derived.Test.YtgigkiocdiffjaaGreatSKopen
set_option maxRecDepth 100000
set_option maxHeartbeats 16000000
namespace Go.Proofs.YtgigkiocdiffjaaGreat
open Go.RowKit Go.Deep Veil
def StepsAt (w:World) (ao:Option Addr) (n:Nat) (st:Nat→KS):Prop:=
 n=0∨∃ b off,ao=some ⟨b,off,none⟩∧b<w.heap.size∧∀ i,i<n→∀ j,j<6→w.cell? ⟨b,off+i*6+j,none⟩=(st i).cells[j]?
theorem StepsAt.cells {w w':World} {b off n:Nat} {st:Nat→KS} (h:∀ i,i<n→∀ j,j<6→w.cell? ⟨b,off+i*6+j,none⟩=(st i).cells[j]?) (hb:Below w.heap.size w w') (hlt:b<w.heap.size) (k:Nat) (hk:k<n) :
  w'.cell? ⟨b,off+k*6,none⟩=some (.int .i64 (st k).kind)∧w'.cell? ⟨b,off+k*6+1,none⟩=some (.int .i64 (st k).level)∧w'.cell? ⟨b,off+k*6+2,none⟩=some (.int .i64 (st k).lo) ∧
  w'.cell? ⟨b,off+k*6+3,none⟩=some (.int .i64 (st k).hi)∧w'.cell? ⟨b,off+k*6+4,none⟩=some (.int .i64 (st k).label)∧w'.cell? ⟨b,off+k*6+5,none⟩=some (.string (st k).text):=by
 refine⟨?_,?_,?_,?_,?_,?_⟩
 ·exact (hb.cell (p:=⟨b,off+k*6,none⟩) hlt).trans (h k hk 0 (by omega))
 ·exact (hb.cell (p:=⟨b,off+k*6+1,none⟩) hlt).trans (h k hk 1 (by omega))
 ·exact (hb.cell (p:=⟨b,off+k*6+2,none⟩) hlt).trans (h k hk 2 (by omega))
 ·exact (hb.cell (p:=⟨b,off+k*6+3,none⟩) hlt).trans (h k hk 3 (by omega))
 ·exact (hb.cell (p:=⟨b,off+k*6+4,none⟩) hlt).trans (h k hk 4 (by omega))
 ·exact (hb.cell (p:=⟨b,off+k*6+5,none⟩) hlt).trans (h k hk 5 (by omega))
theorem Tryz.cellsStep:Tryz.prog.cellsOf 46=6:=by kernel_rfl
theorem Tryz.bytesStep:Tryz.prog.bytesOf 46=56:=by kernel_rfl
theorem Tryz.cellsCase:Tryz.prog.cellsOf 34=5:=by kernel_rfl
theorem Tryz.cellsSteps:Tryz.prog.cellsOf 32=1:=by kernel_rfl
section
variable {H:Type} {enc:TypeId × Value→H} {w:World} {spare:Nat→Bool} {held:Bool}
theorem open_step {n:Nat} {cs:List Value} {x:DataW H × List MemPlace} (h:DataW.trod enc Tryz.prog w 0 spare held n 46 cs=some x) (hz:(x.1.weights Tryz.prog 46).all (·≤reachBytes)=true) :
  ∃ o:KS,cs=o.cells.toList∧o.text.size≤reachBytes:=by
 obtain⟨xs,m,_,rfl,hl,hlen,hf⟩:=DataW.trod_struct Tryz.underlying46 h
 rw [Tryz.cellsStep] at hl
 match cs,hl,xs,hlen with
 | [c0,c1,c2,c3,c4,c5],_,[x0,x1,x2,x3,x4,x5],_=>
  have f0:=hf 0 _ rfl
  have f1:=hf 1 _ rfl
  have f2:=hf 2 _ rfl
  have f3:=hf 3 _ rfl
  have f4:=hf 4 _ rfl
  have f5:=hf 5 _ rfl
  simp [Tryz.cellsInt,Tryz.cellsStr] at f0 f1 f2 f3 f4 f5
  obtain⟨n0,e0,rfl,_⟩:=DataW.trod_int Tryz.underlying3 f0
  obtain⟨n1,e1,rfl,_⟩:=DataW.trod_int Tryz.underlying3 f1
  obtain⟨n2,e2,rfl,_⟩:=DataW.trod_int Tryz.underlying3 f2
  obtain⟨n3,e3,rfl,_⟩:=DataW.trod_int Tryz.underlying3 f3
  obtain⟨n4,e4,rfl,_⟩:=DataW.trod_int Tryz.underlying3 f4
  obtain⟨s5,e5,rfl,h5⟩:=DataW.trod_string Tryz.underlying9 f5
  simp only [List.cons.injEq,and_true] at e0 e1 e2 e3 e4 e5
  subst e0 e1 e2 e3 e4 e5
  refine⟨⟨n0,n1,n2,n3,n4,s5⟩,rfl,?_⟩
  simp [DataW.weights,DataW.weightsEach,Tryz.underlying46] at hz
  exact hz
theorem open_steps {fuel:Nat} {ao:Option Addr} {n cap:Nat} {x:DataW H × List MemPlace} (h:DataW.trod enc Tryz.prog w 0 spare held fuel 32 [.slice ao n cap]=some x) (hz:(x.1.weights Tryz.prog 32).all (·≤reachBytes)=true) :
  ∃ st:Nat→KS,StepsAt w ao n st∧n≤2513169434916∧∀ i,i<n→(st i).text.size≤140737488355328:=by
 rcases open_slice Tryz.underlying32 h with⟨h0,_⟩|⟨a,len,cp,m,k,D,Pl,hv,_,hl,hm,hmm,rfl,hx⟩
 ·simp only [List.cons.injEq,Value.slice.injEq,and_true] at h0
  obtain⟨rfl,rfl,rfl⟩:=h0
  exact⟨fun _=>⟨0,0,0,0,0,ByteArray.empty⟩,Or.inl rfl,by omega,fun i hi=>absurd hi (by omega)⟩
 ·simp only [List.cons.injEq,Value.slice.injEq,and_true] at hv
  obtain⟨rfl,rfl,rfl⟩:=hv
  rw [Tryz.cellsStep] at hx
  have hlm:n≤m:=by rw [hmm];split <;> omega
  have hw:((DataW.slice ((List.range n).map D) ((List.range (m-n)).map fun j=>D (n+j)):DataW H).weights Tryz.prog 32)=(n+(m-n))*56 :: (DataW.weightsAll Tryz.prog 46 ((List.range n).map D)++DataW.weightsAll Tryz.prog 46 ((List.range (m-n)).map fun j=>D (n+j))):=by
   simp [DataW.weights,Tryz.underlying32,Tryz.bytesStep]
  rw [hw] at hz
  have hn:n≤2513169434916:=by
   have:=all_le_mem hz (List.mem_cons_self ..)
   simp only [reachBytes] at this;omega
  have hel:∀ i,i<n→∃ o:KS,(∀ j,j<6→w.cell? ((a.add (i*6)).add j)=o.cells[j]?)∧o.text.size≤140737488355328:=by
   intro i hi
   obtain⟨cs',h1,h2⟩:=hx i (by omega)
   obtain⟨_,hlen,hc⟩:=World.cells?_some h1
   obtain⟨o,rfl,q2⟩:=open_step h2 (by
    rw [List.all_eq_true]
    intro y hy
    have:y ∈ DataW.weightsAll Tryz.prog 46 ((List.range n).map D):=weights_mem_all (d:=D i) (List.mem_map.2 ⟨i,by simpa using hi,rfl⟩) y hy
    have:=all_le_mem hz (List.mem_cons_of_mem _ (List.mem_append_left _ this))
    simpa using this)
   refine⟨o,fun j hj=>by rw [hc j hj];simp,?_⟩
   simp only [reachBytes] at q2;omega
  haveI:Inhabited KS:=⟨⟨0,0,0,0,0,ByteArray.empty⟩⟩
  obtain⟨st,hst⟩:=choose_lt hel
  refine⟨st,?_,hn,fun i hi=>(hst i hi).2⟩
  by_cases h0:n=0
  ·exact Or.inl h0
  ·right
   have hc:=(hst 0 (by omega)).1 0 (by omega)
   rw [Nat.zero_mul,add_add] at hc
   have hc':w.cell? (a.add 0)=some (.int .i64 (st 0).kind):=hc
   have ha:=spot_none hc'
   refine⟨a.block,a.off,congrArg some ha,?_,fun i hi j hj=>?_⟩
   ·have hb:=Go.block_lt_of_cell hc'
    rw [ha] at hb
    simpa [add_plain] using hb
   ·have:=(hst i hi).1 j hj
    rw [add_add,ha,add_plain] at this
    rw [← this];congr 2;omega
theorem open_case {n:Nat} {cs:List Value} {x:DataW H × List MemPlace} (h:DataW.trod enc Tryz.prog w 0 spare held n 34 cs=some x) (hz:(x.1.weights Tryz.prog 34).all (·≤reachBytes)=true) :
  ∃ (c:Cfg) (v:CfgV) (ao:Option Addr) (m cap:Nat) (st:Nat→KS),cs=(caseC c v (.slice ao m cap)).toList∧CfgOk c∧CfgAt w c v∧c.rules.length≤v.rc∧StepsAt w ao m st∧m≤2513169434916∧∀ i,i<m→(st i).text.size≤140737488355328:=by
 obtain⟨xs,m,_,rfl,hl,hlen,hf⟩:=DataW.trod_struct Tryz.underlying34 h
 rw [Tryz.cellsCase] at hl
 match cs,hl,xs,hlen with
 | [c0,c1,c2,c3,c4],_,[x0,x1],_=>
  have f0:=hf 0 _ rfl
  have f1:=hf 1 _ rfl
  simp [Tryz.cellsConfig,Tryz.cellsSteps] at f0 f1
  have hzz:(x0.1.weights Tryz.prog 31).all (·≤reachBytes)=true∧(x1.1.weights Tryz.prog 32).all (·≤reachBytes)=true:=by
   simpa [DataW.weights,DataW.weightsEach,Tryz.underlying34,List.all_append] using hz
  obtain⟨⟨c,v⟩,hc,hok,hat,_,hcap⟩:=open_config f0 hzz.1
  have g1:∃ a k cp,c4=.slice a k cp:=by
   rcases open_slice Tryz.underlying32 f1 with⟨h0,_⟩|⟨a,len,cp,_,_,_,_,hv,_⟩
   ·exact⟨_,_,_,(List.cons.inj h0).1⟩
   ·exact⟨_,_,_,(List.cons.inj hv).1⟩
  obtain⟨a1,k1,p1,rfl⟩:=g1
  obtain⟨st,s1,s2,s3⟩:=open_steps f1 hzz.2
  simp only [cfgCells,List.cons.injEq,and_true] at hc
  obtain⟨rfl,rfl,rfl,rfl⟩:=hc
  exact⟨c,v,a1,k1,p1,st,rfl,hok,hat,hcap,s1,s2,s3⟩
end
end Go.Proofs.YtgigkiocdiffjaaGreat
