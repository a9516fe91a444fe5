import Derived.Test.YtgigkiocdiffjaaGreatS01
import Derived.Test.YtgigkiocdiffjaaGreatS07
import Derived.Test.YtgigkiocdiffjaaGreatS09
import Derived.ArgAppend
import Derived.Test.YtgigkiocdiffjaaGreatS13
import Derived.Test.YtgigkiocdiffjaaGreatS04
import Derived.Test.YtgigkiocdiffjaaGreatS02
import Derived.SizedLaws
import Derived.Deep.Slices
set_option maxRecDepth 100000
set_option maxHeartbeats 16000000
namespace Go.Proofs.YtgigkiocdiffjaaGreat
open Go.RowKit Veil
def IntsAt (w:World) (g:Nat) (l:List Int):Prop:=w.heap[g]?=some (.cells (l.map (Value.int .i64)).toArray 3 (0,0))
theorem IntsAt.cell {w:World} {g:Nat} {l:List Int} (h:IntsAt w g l) (k:Nat) (hk:k<l.length):w.cell? ⟨g,k,none⟩=some (.int .i64 (l.getD k 0)):=by
 unfold IntsAt at h
 simp [World.cell?,h,hk]
end Go.Proofs.YtgigkiocdiffjaaGreat
namespace Go.Proofs.YtgigkiocdiffjaaGreat
open Go.RowKit Veil
def PlainW (w:World) (g:Nat) (cs:Value):Prop:=w.heap[g]?=some (.cells #[cs,.slice none 0 0,.slice none 0 0,.slice none 0 0,.slice none 0 0] 55 (0,0))
theorem PlainW.cells {w:World} {g:Nat} {cs:Value} (h:PlainW w g cs):w.cell? ⟨g,0,none⟩=some cs∧w.cell? ⟨g,1,none⟩=some (.slice none 0 0)∧w.cell? ⟨g,2,none⟩=some (.slice none 0 0)∧w.cell? ⟨g,3,none⟩=some (.slice none 0 0)∧w.cell? ⟨g,4,none⟩=some (.slice none 0 0):=by
 unfold PlainW at h
 simp [World.cell?,h]
theorem PlainW.below {w w':World} {g B:Nat} {cs:Value} (h:PlainW w g cs) (hb:Below B w w') (hg:g<B):PlainW w' g cs:=Below.row hb h hg
theorem PlainW.lt {w:World} {g:Nat} {cs:Value} (h:PlainW w g cs):g<w.heap.size:=lt_of_row h
end Go.Proofs.YtgigkiocdiffjaaGreat
namespace Go.Proofs.YtgigkiocdiffjaaGreat
open Go.RowKit Veil
structure OpR where
 kind:Int
 a:Int
 b:Int
 c:Int
 d:Int
 e:Int
 s:ByteArray
 t:ByteArray
def OpR.cells (o:OpR):Array Value:=#[.int .i64 o.kind,.int .i64 o.a,.int .i64 o.b,.int .i64 o.c,.int .i64 o.d,.int .i64 o.e,.string o.s,.string o.t]
def OpsAt (w:World) (ao:Option Addr) (n:Nat) (ops:Nat→OpR):Prop:=
 n=0∨∃ b off,ao=some ⟨b,off,none⟩∧b<w.heap.size∧∀ i,i<n→∀ j,j<8→w.cell? ⟨b,off+i*8+j,none⟩=(ops i).cells[j]?
theorem OpsAt.cells {w w':World} {b off n:Nat} {ops:Nat→OpR} (h:∀ i,i<n→∀ j,j<8→w.cell? ⟨b,off+i*8+j,none⟩=(ops i).cells[j]?) (hb:Below w.heap.size w w') (hlt:b<w.heap.size) (k:Nat) (hk:k<n) :
  w'.cell? ⟨b,off+k*8,none⟩=some (.int .i64 (ops k).kind)∧w'.cell? ⟨b,off+k*8+1,none⟩=some (.int .i64 (ops k).a)∧w'.cell? ⟨b,off+k*8+2,none⟩=some (.int .i64 (ops k).b) ∧
  w'.cell? ⟨b,off+k*8+3,none⟩=some (.int .i64 (ops k).c)∧w'.cell? ⟨b,off+k*8+4,none⟩=some (.int .i64 (ops k).d)∧w'.cell? ⟨b,off+k*8+5,none⟩=some (.int .i64 (ops k).e) ∧
  w'.cell? ⟨b,off+k*8+6,none⟩=some (.string (ops k).s)∧w'.cell? ⟨b,off+k*8+7,none⟩=some (.string (ops k).t):=by
 have hh:∀ j,j<8→w'.cell? ⟨b,off+k*8+j,none⟩=(ops k).cells[j]?:=fun j hj=>(hb.cell (p:=⟨b,off+k*8+j,none⟩) hlt).trans (h k hk j hj)
 exact⟨hh 0 (by omega),hh 1 (by omega),hh 2 (by omega),hh 3 (by omega),hh 4 (by omega),hh 5 (by omega),hh 6 (by omega),hh 7 (by omega)⟩
theorem OpsAt.below {w w':World} {ao:Option Addr} {n:Nat} {ops:Nat→OpR} (h:OpsAt w ao n ops) (hb:Below w.heap.size w w'):OpsAt w' ao n ops:=by
 rcases h with h|⟨b,off,h1,h2,h3⟩
 ·exact Or.inl h
 ·exact Or.inr ⟨b,off,h1,Nat.lt_of_lt_of_le h2 hb.size,fun i hi j hj=>(hb.cell (p:=⟨b,off+i*8+j,none⟩) h2).trans (h3 i hi j hj)⟩
theorem IntsAt.below {w w':World} {g:Nat} {l:List Int} {B:Nat} (h:IntsAt w g l) (hb:Below B w w') (hg:g<B):IntsAt w' g l:=Below.row hb h hg
theorem IntsAt.lt {w:World} {g:Nat} {l:List Int} (h:IntsAt w g l):g<w.heap.size:=lt_of_row h
end Go.Proofs.YtgigkiocdiffjaaGreat
namespace Go.Proofs.YtgigkiocdiffjaaGreat
open Go.RowKit Veil
end Go.Proofs.YtgigkiocdiffjaaGreat
namespace Go.Proofs.YtgigkiocdiffjaaGreat
open Go.RowKit Veil
theorem toList_self (s:ByteArray):(s.toList == s.toList)=true:=by simp
end Go.Proofs.YtgigkiocdiffjaaGreat
namespace Go.Proofs.YtgigkiocdiffjaaGreat
open Go.RowKit Veil
end Go.Proofs.YtgigkiocdiffjaaGreat
namespace Go.Proofs.YtgigkiocdiffjaaGreat
open Go.RowKit Veil
section
variable {α:Type} {e:TypeId} {sz:Nat} {f:α→List Value} {w w':World} {B:Nat} {v:Value} {l:List α}
end
end Go.Proofs.YtgigkiocdiffjaaGreat
namespace Go.Proofs.YtgigkiocdiffjaaGreat
open Go.RowKit Veil
def s3V (x:Int × Int × Int):List Value:=[.int .i64 x.1,.int .i64 x.2.1,.int .i64 x.2.2]
theorem recV_len:∀ a,(recV a).length=3:=fun _=>rfl
theorem noV_len:∀ a,(noV a).length=2:=fun _=>rfl
end Go.Proofs.YtgigkiocdiffjaaGreat
namespace Go.Proofs.YtgigkiocdiffjaaGreat
open Go.RowKit Veil
theorem kright_any (c:Cfg) (v:CfgV) (w:World) (hok:CfgOk c) (hat:CfgAt w c v) :
  Calls Tryz.prog 21 #[.agg (cfgCells c v)] w fun e w'=>∃ code,e=.returned (.bool (code == 0))∧CheckIs c code∧Below w.heap.size w w':=by
 have HQ:=hide (fun w' (hb:Below w.heap.size w w')=>rCheck_any c v w' hok (hat.below hb))
 have HB0:=hide (below_box w (.cells (cfgCells c v) 31))
 clear hok hat
 unfold cfgCells at *
 go_enter Tryz.func21,Tryz.ntmps21
 go_wp2_with fail
 refine (HQ.out _ HB0.out).mono ?_
 rintro e w1 ⟨code,rfl,hc,hb1⟩
 have HC:=hide hc
 have hbel1:=HB0.out.trans (hb1.mono (by simp))
 clear hb1 HB0 hc HQ
 go_wp2
 go_ret
 exact⟨code,rfl,HC.out,hbel1⟩
end Go.Proofs.YtgigkiocdiffjaaGreat
namespace Go.Proofs.YtgigkiocdiffjaaGreat
open Go.RowKit Veil
theorem klabel_any (c:Cfg) (v:CfgV) (a:Int) (w:World) :
  Calls Tryz.prog 72 #[.agg (cfgCells c v),.int .i64 a] w fun e w'=>e=.returned (.bool (okL c.labels a))∧Below w.heap.size w w':=by
 unfold cfgCells
 by_cases h:0≤a
 ·go_enter Tryz.func72,Tryz.ntmps72
  go_wp2
  go_ret
  exact⟨ret_bool (by simp [Veil.okL,h]),below_box _ _⟩
 ·go_enter Tryz.func72,Tryz.ntmps72
  go_wp2
  go_ret
  exact⟨ret_bool (by simp [Veil.okL];omega),below_box _ _⟩
end Go.Proofs.YtgigkiocdiffjaaGreat
namespace Go.Proofs.YtgigkiocdiffjaaGreat
open Go.RowKit Go.Deep Veil
theorem Tryz.cellsInt:Tryz.prog.cellsOf 3=1:=by kernel_rfl
theorem Tryz.cellsStr:Tryz.prog.cellsOf 9=1:=by kernel_rfl
theorem add_plain {b o j:Nat}:(⟨b,o,none⟩:Addr).add j=⟨b,o+j,none⟩:=by unfold Addr.add;split <;> simp_all
theorem spot_none {w:World} {a:Addr} {v:Value} (h:w.cell? (a.add 0)=some v):a=⟨a.block,a.off,none⟩:=by
 obtain⟨b,o,sp⟩:=a
 have:sp=none:=by simpa [Addr.add] using World.cell?_spot h
 subst this;rfl
section
variable {H:Type}
theorem all_le_mem {l:List Nat} (h:l.all (·≤reachBytes)=true) {n:Nat} (hn:n ∈ l):n≤reachBytes:=by
 simpa using List.all_eq_true.1 h n hn
theorem weights_mem_all {e:TypeId} {ds:List (DataW H)} {d:DataW H} (hd:d ∈ ds):∀ n ∈ d.weights Tryz.prog e,n ∈ DataW.weightsAll Tryz.prog e ds:=by
 induction ds with
 | nil=>cases hd
 | cons y r ih=>
  intro n hn
  rw [DataW.weightsAll]
  rcases List.mem_cons.1 hd with rfl|hd
  ·exact List.mem_append_left _ hn
  ·exact List.mem_append_right _ (ih hd n hn)
end
end Go.Proofs.YtgigkiocdiffjaaGreat
namespace Go.Proofs.YtgigkiocdiffjaaGreat
open Go.RowKit Go.Deep Veil
theorem Tryz.cellsEdge:Tryz.prog.cellsOf 169=2:=by kernel_rfl
theorem Tryz.cellsRule:Tryz.prog.cellsOf 163=2:=by kernel_rfl
theorem Tryz.cellsGrant:Tryz.prog.cellsOf 166=2:=by kernel_rfl
theorem Tryz.cellsConfig:Tryz.prog.cellsOf 31=4:=by kernel_rfl
theorem Tryz.cellsEdges:Tryz.prog.cellsOf 27=1:=by kernel_rfl
theorem Tryz.cellsRules:Tryz.prog.cellsOf 28=1:=by kernel_rfl
theorem Tryz.cellsGrants:Tryz.prog.cellsOf 29=1:=by kernel_rfl
theorem Tryz.bytesEdge:Tryz.prog.bytesOf 169=16:=by kernel_rfl
theorem Tryz.bytesRule:Tryz.prog.bytesOf 163=24:=by kernel_rfl
theorem Tryz.bytesGrant:Tryz.prog.bytesOf 166=16:=by kernel_rfl
section
variable {H:Type} {enc:TypeId × Value→H} {w:World} {spare:Nat→Bool} {held:Bool}
theorem open_edge {n:Nat} {cs:List Value} {x:DataW H × List MemPlace} (h:DataW.trod enc Tryz.prog w 0 spare held n 169 cs=some x):∃ p:Int × Int,cs=[xE p,yE p]:=by
 obtain⟨xs,m,_,rfl,hl,hlen,hf⟩:=DataW.trod_struct Tryz.underlying169 h
 rw [Tryz.cellsEdge] at hl
 match cs,hl,xs,hlen with
 | [c0,c1],_,[x0,x1],_=>
  have f0:=hf 0 _ rfl
  have f1:=hf 1 _ rfl
  simp [Tryz.cellsInt] at f0 f1
  obtain⟨n0,e0,rfl,_⟩:=DataW.trod_int Tryz.underlying3 f0
  obtain⟨n1,e1,rfl,_⟩:=DataW.trod_int Tryz.underlying3 f1
  simp only [List.cons.injEq,and_true] at e0 e1
  subst e0 e1
  exact⟨(n0,n1),rfl⟩
theorem open_grant {n:Nat} {cs:List Value} {x:DataW H × List MemPlace} (h:DataW.trod enc Tryz.prog w 0 spare held n 166 cs=some x):∃ p:Int × Int,cs=[xE p,yE p]:=by
 obtain⟨xs,m,_,rfl,hl,hlen,hf⟩:=DataW.trod_struct Tryz.underlying166 h
 rw [Tryz.cellsGrant] at hl
 match cs,hl,xs,hlen with
 | [c0,c1],_,[x0,x1],_=>
  have f0:=hf 0 _ rfl
  have f1:=hf 1 _ rfl
  simp [Tryz.cellsInt] at f0 f1
  obtain⟨n0,e0,rfl,_⟩:=DataW.trod_int Tryz.underlying3 f0
  obtain⟨n1,e1,rfl,_⟩:=DataW.trod_int Tryz.underlying3 f1
  simp only [List.cons.injEq,and_true] at e0 e1
  subst e0 e1
  exact⟨(n0,n1),rfl⟩
theorem open_rule {n:Nat} {cs:List Value} {x:DataW H × List MemPlace} (h:DataW.trod enc Tryz.prog w 0 spare held n 163 cs=some x) (hz:(x.1.weights Tryz.prog 163).all (·≤reachBytes)=true):∃ p:ByteArray × Int,cs=[xR p,yR p]∧p.1.size≤140737488355328:=by
 obtain⟨xs,m,_,rfl,hl,hlen,hf⟩:=DataW.trod_struct Tryz.underlying163 h
 rw [Tryz.cellsRule] at hl
 match cs,hl,xs,hlen with
 | [c0,c1],_,[x0,x1],_=>
  have f0:=hf 0 _ rfl
  have f1:=hf 1 _ rfl
  simp [Tryz.cellsInt,Tryz.cellsStr] at f0 f1
  obtain⟨s0,e0,rfl,_⟩:=DataW.trod_string Tryz.underlying9 f0
  obtain⟨n1,e1,rfl,_⟩:=DataW.trod_int Tryz.underlying3 f1
  simp only [List.cons.injEq,and_true] at e0 e1
  subst e0 e1
  refine⟨(s0,n1),rfl,?_⟩
  simp [DataW.weights,DataW.weightsEach,Tryz.underlying163] at hz
  simp only [reachBytes] at hz
  simp only
  omega
theorem open_seq {α:Type} [Inhabited α] (x y:α→Value) (Q:α→Prop) {t e:TypeId} (bytes:Nat) (ht:Tryz.prog.underlying t=some (.slice e)) (hcells:Tryz.prog.cellsOf e=2) (hbytes:Tryz.prog.bytesOf e=bytes) (hb16:16≤bytes)
  (hopen:∀ n cs (z:DataW H × List MemPlace),DataW.trod enc Tryz.prog w 0 spare held n e cs=some z→(z.1.weights Tryz.prog e).all (·≤reachBytes)=true→∃ p:α,cs=[x p,y p]∧Q p)
  {fuel:Nat} {ao:Option Addr} {n cap:Nat} {z:DataW H × List MemPlace} (h:DataW.trod enc Tryz.prog w 0 spare held fuel t [.slice ao n cap]=some z) (hz:(z.1.weights Tryz.prog t).all (·≤reachBytes)=true) :
  ∃ l:List α,l.length=n∧SeqAt x y w ao l∧n≤8796093022208∧(∀ p,p ∈ l→Q p)∧(ao=none→n=0∧cap=0)∧n≤cap:=by
 rcases open_slice ht h with⟨h0,_⟩|⟨a,len,cp,m,k,D,Pl,hv,_,hl,hm,hmm,rfl,hx⟩
 ·simp only [List.cons.injEq,Value.slice.injEq,and_true] at h0
  obtain⟨rfl,rfl,rfl⟩:=h0
  exact⟨[],rfl,Or.inl rfl,by omega,(fun p hp=>by simp at hp),fun _=>⟨rfl,rfl⟩,Nat.le_refl _⟩
 ·simp only [List.cons.injEq,Value.slice.injEq,and_true] at hv
  obtain⟨rfl,rfl,rfl⟩:=hv
  rw [hcells] at hx
  have hlm:n≤m:=by rw [hmm];split <;> omega
  have hw:((DataW.slice ((List.range n).map D) ((List.range (m-n)).map fun j=>D (n+j)):DataW H).weights Tryz.prog t)=(n+(m-n))*bytes :: (DataW.weightsAll Tryz.prog e ((List.range n).map D)++DataW.weightsAll Tryz.prog e ((List.range (m-n)).map fun j=>D (n+j))):=by
   simp [DataW.weights,ht,hbytes]
  rw [hw] at hz
  have hn:n≤8796093022208:=by
   have:=all_le_mem hz (List.mem_cons_self ..)
   have h2:n*16≤(n+(m-n))*bytes:=Nat.mul_le_mul (by omega) hb16
   simp only [reachBytes] at this;omega
  have hel:∀ i,i<n→∃ p:α,(w.cell? ((a.add (i*2)).add 0)=some (x p)∧w.cell? ((a.add (i*2)).add 1)=some (y p))∧Q p:=by
   intro i hi
   obtain⟨cs',h1,h2⟩:=hx i (by omega)
   obtain⟨_,hlen,hc⟩:=World.cells?_some h1
   obtain⟨p,rfl,hq⟩:=hopen _ _ _ h2 (by
    rw [List.all_eq_true]
    intro y' hy
    have:y' ∈ DataW.weightsAll Tryz.prog e ((List.range n).map D):=weights_mem_all (d:=D i) (List.mem_map.2 ⟨i,by simpa using hi,rfl⟩) y' hy
    have:=all_le_mem hz (List.mem_cons_of_mem _ (List.mem_append_left _ this))
    simpa using this)
   exact⟨p,⟨by rw [hc 0 (by omega)];rfl,by rw [hc 1 (by omega)];rfl⟩,hq⟩
  obtain⟨f,hf⟩:=choose_lt hel
  refine⟨(List.range n).map f,by simp,?_,hn,fun p hp=>?_,(fun h=>by simp at h),hl⟩
  ·by_cases h0:n=0
   ·exact Or.inl (by simp [h0])
   ·right
    have hc:=(hf 0 (by omega)).1.1
    rw [Nat.zero_mul,add_add] at hc
    have ha:=spot_none hc
    refine⟨a.block,a.off,congrArg some ha,?_,fun i p hi=>?_⟩
    ·have hb:=Go.block_lt_of_cell hc
     rw [ha] at hb
     simpa [add_plain] using hb
    ·have hi':i<n:=by
      have:=(List.getElem?_eq_some_iff.1 hi).1
      simpa using this
     have hp:f i=p:=by simpa [hi'] using hi
     subst hp
     obtain⟨⟨q0,q1⟩,_⟩:=hf i hi'
     rw [add_add,ha,add_plain] at q0 q1
     constructor
     ·rw [← q0];rfl
     ·rw [← q1];congr 2
  ·obtain⟨i,hi,rfl⟩:=List.mem_map.1 hp
   exact (hf i (by simpa using hi)).2
theorem open_config {n:Nat} {cs:List Value} {x:DataW H × List MemPlace} (h:DataW.trod enc Tryz.prog w 0 spare held n 31 cs=some x) (hz:(x.1.weights Tryz.prog 31).all (·≤reachBytes)=true) :
  ∃ p:Cfg × CfgV,cs=(cfgCells p.1 p.2).toList∧CfgOk p.1∧CfgAt w p.1 p.2∧CfgNil p.1 p.2∧p.1.rules.length≤p.2.rc:=by
 obtain⟨xs,m,_,rfl,hl,hlen,hf⟩:=DataW.trod_struct Tryz.underlying31 h
 rw [Tryz.cellsConfig] at hl
 match cs,hl,xs,hlen with
 | [c0,c1,c2,c3],_,[x0,x1,x2,x3],_=>
  have f0:=hf 0 _ rfl
  have f1:=hf 1 _ rfl
  have f2:=hf 2 _ rfl
  have f3:=hf 3 _ rfl
  simp [Tryz.cellsInt,Tryz.cellsEdges,Tryz.cellsRules,Tryz.cellsGrants] at f0 f1 f2 f3
  obtain⟨n0,e0,rfl,_⟩:=DataW.trod_int Tryz.underlying3 f0
  simp only [List.cons.injEq,and_true] at e0
  subst e0
  have hzz:(x1.1.weights Tryz.prog 27).all (·≤reachBytes)=true∧(x2.1.weights Tryz.prog 28).all (·≤reachBytes)=true∧(x3.1.weights Tryz.prog 29).all (·≤reachBytes)=true:=by
   simpa [DataW.weights,DataW.weightsEach,Tryz.underlying31,List.all_append] using hz
  obtain⟨z1,z2,z3⟩:=hzz
  have g1:∃ a k cp,c1=.slice a k cp:=by
   rcases open_slice Tryz.underlying27 f1 with⟨h0,_⟩|⟨a,len,cp,_,_,_,_,hv,_⟩
   ·exact⟨_,_,_,(List.cons.inj h0).1⟩
   ·exact⟨_,_,_,(List.cons.inj hv).1⟩
  have g2:∃ a k cp,c2=.slice a k cp:=by
   rcases open_slice Tryz.underlying28 f2 with⟨h0,_⟩|⟨a,len,cp,_,_,_,_,hv,_⟩
   ·exact⟨_,_,_,(List.cons.inj h0).1⟩
   ·exact⟨_,_,_,(List.cons.inj hv).1⟩
  have g3:∃ a k cp,c3=.slice a k cp:=by
   rcases open_slice Tryz.underlying29 f3 with⟨h0,_⟩|⟨a,len,cp,_,_,_,_,hv,_⟩
   ·exact⟨_,_,_,(List.cons.inj h0).1⟩
   ·exact⟨_,_,_,(List.cons.inj hv).1⟩
  obtain⟨a1,k1,p1,rfl⟩:=g1
  obtain⟨a2,k2,p2,rfl⟩:=g2
  obtain⟨a3,k3,p3,rfl⟩:=g3
  obtain⟨E,rfl,sE,bE,_,nE,_⟩:=open_seq xE yE (fun _=>True) 16 Tryz.underlying27 Tryz.cellsEdge Tryz.bytesEdge (by omega) (fun n cs z hh _=>by obtain⟨p,hp⟩:=open_edge hh;exact⟨p,hp,trivial⟩) f1 z1
  obtain⟨R,rfl,sR,bR,tR,nR,lR⟩:=open_seq xR yR (fun p=>p.1.size≤140737488355328) 24 Tryz.underlying28 Tryz.cellsRule Tryz.bytesRule (by omega) (fun n cs z hh hw=>open_rule hh hw) f2 z2
  obtain⟨G,rfl,sG,bG,_,nG,_⟩:=open_seq xE yE (fun _=>True) 16 Tryz.underlying29 Tryz.cellsGrant Tryz.bytesGrant (by omega) (fun n cs z hh _=>by obtain⟨p,hp⟩:=open_grant hh;exact⟨p,hp,trivial⟩) f3 z3
  exact⟨(⟨n0,E,R,G⟩,⟨a1,p1,a2,p2,a3,p3⟩),rfl,⟨bE,bR,bG,tR⟩,⟨sE,sR,sG⟩,⟨nE,nR,nG⟩,lR⟩
end
end Go.Proofs.YtgigkiocdiffjaaGreat
namespace Go.Proofs.YtgigkiocdiffjaaGreat
open Go.RowKit Veil
structure KS where
 kind:Int
 level:Int
 lo:Int
 hi:Int
 label:Int
 text:ByteArray
def KS.cells (o:KS):Array Value:=#[.int .i64 o.kind,.int .i64 o.level,.int .i64 o.lo,.int .i64 o.hi,.int .i64 o.label,.string o.text]
def toldC (e n:Int) (s:ByteArray) (l:Value):Array Value:=#[.int .i64 e,.int .i64 n,.string s,l]
def inV (x:Int):List Value:=[.int .i64 x]
structure Ans where
 e:Int
 n:Int
 s:ByteArray
 l:List Int
def tNo:ByteArray:=⟨#[]⟩
def Ans.err (e:Int):Ans:=⟨e,0,tNo,[]⟩
end Go.Proofs.YtgigkiocdiffjaaGreat
