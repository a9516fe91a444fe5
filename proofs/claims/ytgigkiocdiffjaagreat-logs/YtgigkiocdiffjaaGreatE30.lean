import Derived.Test.YtgigkiocdiffjaaGreatE25
import Derived.Test.YtgigkiocdiffjaaGreatE29
import Derived.Test.YtgigkiocdiffjaaGreatE27
set_option maxRecDepth 100000
set_option maxHeartbeats 16000000
namespace Go.Proofs.YtgigkiocdiffjaaGreat
open Go.RowKit Veil
theorem step_none (gw:Nat) (o:OpR) (dcap:Nat) (dao:Option Addr) (w:World) (h7:7≤o.kind) (h17:o.kind≤17) (hds:w.cell? ⟨gw,1,none⟩=some (.slice dao 0 dcap)) :
  Calls Tryz.prog 18 #[.pointer (some ⟨gw,0,none⟩),.agg o.cells] w fun e w'=>e=.returned (.bool true)∧Below w.heap.size w w':=by
 obtain⟨kind,a,b,cc,d,e0,s0,t0⟩:=o
 simp only at h7 h17
 have t5:(kind == 5)=false:=by simp;omega
 have t1:1≤kind:=by omega
 have t6:decide (kind≤6)=false:=by simp;omega
 have t7:decide (kind<7)=false:=by simp;omega
 have t17:decide (17<kind)=false:=by simp;omega
 have hgl:gw<w.heap.size:=by have:=Go.block_lt_of_cell hds;exact this
 unfold OpR.cells
 simp only
 have hbx:=below_box w (.cells #[.int .i64 kind,.int .i64 a,.int .i64 b,.int .i64 cc,.int .i64 d,.int .i64 e0,.string s0,.string t0] 57)
 go_enter Tryz.func18,Tryz.ntmps18
 go_wp2
 go_ret
 exact⟨rfl,hbx⟩
theorem step_doc (gw db dn dcap i pd rd:Nat) (o:OpR) (C:World→Prop) (w:World) (h7:7≤o.kind) (h17:o.kind≤17) (ha:-9223372036854775808≤o.a∧o.a≤9223372036854775807) (hdn:dn<2 ^ 57) (hi:pickI o.a dn=i) (hil:i<dn)
  (hds:w.cell? ⟨gw,1,none⟩=some (.slice (some ⟨db,0,none⟩) dn dcap)) (hp0:w.cell? ⟨db,i*2,none⟩=some (.pointer (some ⟨pd,0,none⟩))) (hp1:w.cell? ⟨db,i*2+1,none⟩=some (.pointer (some ⟨rd,0,none⟩)))
  (hO:∀ w',Below w.heap.size w w'→Calls Tryz.prog 43 #[.pointer (some ⟨gw,0,none⟩),.agg (pairC pd rd),.agg o.cells] w' fun e w''=>e=.returned (.bool true)∧C w''∧w''.cell? ⟨gw,1,none⟩=w'.cell? ⟨gw,1,none⟩∧∀ k,k=db∨w.heap.size≤k→k<w'.heap.size→w''.heap[k]?=w'.heap[k]?) :
  Calls Tryz.prog 18 #[.pointer (some ⟨gw,0,none⟩),.agg o.cells] w fun e w'=>e=.returned (.bool true)∧C w':=by
 have HO:=hide hO
 clear hO
 obtain⟨kind,a,b,cc,d,e0,s0,t0⟩:=o
 simp only at h7 h17 ha hi
 have HPICK:Hid (∀ w',Calls Tryz.prog 40 #[.int .i64 a,.int .i64 dn] w' fun e w''=>e=.returned (.int .i64 i)∧w'=w''):=fun w'=>by rw [← hi];exact pick_any a dn w' ha (by omega) hdn
 have t5:(kind == 5)=false:=by simp;omega
 have t1:1≤kind:=by omega
 have t6:decide (kind≤6)=false:=by simp;omega
 have t7:decide (kind<7)=false:=by simp;omega
 have t17:decide (17<kind)=false:=by simp;omega
 have td:((dn:Int) == 0)=false:=by simp;omega
 have hii:(i:Int)<(dn:Int):=by omega
 have hgl:gw<w.heap.size:=by have:=Go.block_lt_of_cell hds;exact this
 have hdl:db<w.heap.size:=by have:=Go.block_lt_of_cell hp0;exact this
 unfold OpR.cells pairC at *
 simp only at *
 have hbx:=below_box w (.cells #[.int .i64 kind,.int .i64 a,.int .i64 b,.int .i64 cc,.int .i64 d,.int .i64 e0,.string s0,.string t0] 57)
 have HNA:=hide (Go.heap_alloc_new w (.cells #[.int .i64 kind,.int .i64 a,.int .i64 b,.int .i64 cc,.int .i64 d,.int .i64 e0,.string s0,.string t0] 57))
 have HO1:=hide (HO.out _ hbx.drew)
 have g1:=(hbx.cell (p:=⟨gw,1,none⟩) hgl).trans hds
 have p0:=(hbx.cell (p:=⟨db,i*2,none⟩) hdl).trans hp0
 have p1:=(hbx.cell (p:=⟨db,i*2+1,none⟩) hdl).trans hp1
 have b0:(w.alloc (.cells #[.int .i64 kind,.int .i64 a,.int .i64 b,.int .i64 cc,.int .i64 d,.int .i64 e0,.string s0,.string t0] 57)).cell? ⟨w.heap.size,0,none⟩=some (.int .i64 kind):=(cell_of_row _ _ _ _ _ _ HNA.out).trans rfl
 have b1:(w.alloc (.cells #[.int .i64 kind,.int .i64 a,.int .i64 b,.int .i64 cc,.int .i64 d,.int .i64 e0,.string s0,.string t0] 57)).cell? ⟨w.heap.size,1,none⟩=some (.int .i64 a):=(cell_of_row _ _ _ _ _ _ HNA.out).trans rfl
 have b2:(w.alloc (.cells #[.int .i64 kind,.int .i64 a,.int .i64 b,.int .i64 cc,.int .i64 d,.int .i64 e0,.string s0,.string t0] 57)).cell? ⟨w.heap.size,2,none⟩=some (.int .i64 b):=(cell_of_row _ _ _ _ _ _ HNA.out).trans rfl
 have b3:(w.alloc (.cells #[.int .i64 kind,.int .i64 a,.int .i64 b,.int .i64 cc,.int .i64 d,.int .i64 e0,.string s0,.string t0] 57)).cell? ⟨w.heap.size,3,none⟩=some (.int .i64 cc):=(cell_of_row _ _ _ _ _ _ HNA.out).trans rfl
 have b4:(w.alloc (.cells #[.int .i64 kind,.int .i64 a,.int .i64 b,.int .i64 cc,.int .i64 d,.int .i64 e0,.string s0,.string t0] 57)).cell? ⟨w.heap.size,4,none⟩=some (.int .i64 d):=(cell_of_row _ _ _ _ _ _ HNA.out).trans rfl
 have b5:(w.alloc (.cells #[.int .i64 kind,.int .i64 a,.int .i64 b,.int .i64 cc,.int .i64 d,.int .i64 e0,.string s0,.string t0] 57)).cell? ⟨w.heap.size,5,none⟩=some (.int .i64 e0):=(cell_of_row _ _ _ _ _ _ HNA.out).trans rfl
 have b6:(w.alloc (.cells #[.int .i64 kind,.int .i64 a,.int .i64 b,.int .i64 cc,.int .i64 d,.int .i64 e0,.string s0,.string t0] 57)).cell? ⟨w.heap.size,6,none⟩=some (.string s0):=(cell_of_row _ _ _ _ _ _ HNA.out).trans rfl
 have b7:(w.alloc (.cells #[.int .i64 kind,.int .i64 a,.int .i64 b,.int .i64 cc,.int .i64 d,.int .i64 e0,.string s0,.string t0] 57)).cell? ⟨w.heap.size,7,none⟩=some (.string t0):=(cell_of_row _ _ _ _ _ _ HNA.out).trans rfl
 clear hi ha hds hp0 hp1
 go_enter Tryz.func18,Tryz.ntmps18
 go_wp2_with fail
 first|(go_region_held (fun w'=>w'.cell? ⟨gw,1,none⟩=some (.slice (some ⟨db,0,none⟩) dn dcap)∧w'.cell? ⟨db,i*2,none⟩=some (.pointer (some ⟨pd,0,none⟩))∧w'.cell? ⟨db,i*2+1,none⟩=some (.pointer (some ⟨rd,0,none⟩))∧w'.cell? ⟨w.heap.size,0,none⟩=some (.int .i64 kind)∧w'.cell? ⟨w.heap.size,1,none⟩=some (.int .i64 a)∧w'.cell? ⟨w.heap.size,2,none⟩=some (.int .i64 b)∧w'.cell? ⟨w.heap.size,3,none⟩=some (.int .i64 cc)∧w'.cell? ⟨w.heap.size,4,none⟩=some (.int .i64 d)∧w'.cell? ⟨w.heap.size,5,none⟩=some (.int .i64 e0)∧w'.cell? ⟨w.heap.size,6,none⟩=some (.string s0)∧w'.cell? ⟨w.heap.size,7,none⟩=some (.string t0)) (go_keep) (first|(go_at_call 40;refine (HPICK.out _).mono ?_;rintro e w9 ⟨rfl,rfl⟩)|(go_at_call 43;refine (HO1.out).mono ?_;rintro e w5 ⟨rfl,hC,hkg,hkeep⟩;have z1:=hkg.trans g1;have z2:=(World.cell?_of_block (a:=⟨db,i*2,none⟩) (hkeep db (Or.inl rfl) (by simp;omega))).trans p0;have z3:=(World.cell?_of_block (a:=⟨db,i*2+1,none⟩) (hkeep db (Or.inl rfl) (by simp;omega))).trans p1;have y0:=(World.cell?_of_block (a:=⟨w.heap.size,0,none⟩) (hkeep w.heap.size (Or.inr (Nat.le_refl _)) (by simp))).trans b0;have y1:=(World.cell?_of_block (a:=⟨w.heap.size,1,none⟩) (hkeep w.heap.size (Or.inr (Nat.le_refl _)) (by simp))).trans b1;have y2:=(World.cell?_of_block (a:=⟨w.heap.size,2,none⟩) (hkeep w.heap.size (Or.inr (Nat.le_refl _)) (by simp))).trans b2;have y3:=(World.cell?_of_block (a:=⟨w.heap.size,3,none⟩) (hkeep w.heap.size (Or.inr (Nat.le_refl _)) (by simp))).trans b3;have y4:=(World.cell?_of_block (a:=⟨w.heap.size,4,none⟩) (hkeep w.heap.size (Or.inr (Nat.le_refl _)) (by simp))).trans b4;have y5:=(World.cell?_of_block (a:=⟨w.heap.size,5,none⟩) (hkeep w.heap.size (Or.inr (Nat.le_refl _)) (by simp))).trans b5;have y6:=(World.cell?_of_block (a:=⟨w.heap.size,6,none⟩) (hkeep w.heap.size (Or.inr (Nat.le_refl _)) (by simp))).trans b6;have y7:=(World.cell?_of_block (a:=⟨w.heap.size,7,none⟩) (hkeep w.heap.size (Or.inr (Nat.le_refl _)) (by simp))).trans b7)))|fail "no"
 have HC:=hide hC
 clear hC hkeep hkg
 go_wp2
 go_ret
 exact⟨rfl,HC.out⟩
end Go.Proofs.YtgigkiocdiffjaaGreat
namespace Go.Proofs.YtgigkiocdiffjaaGreat
open Go.RowKit Go.Deep Veil
section
variable {H:Type} {enc:TypeId × Value→H} {w:World} {spare:Nat→Bool} {held:Bool}
theorem open_cfgs {fuel:Nat} {ao:Option Addr} {n cap:Nat} {x:DataW H × List MemPlace} (h:DataW.trod enc Tryz.prog w 0 spare held fuel 22 [.slice ao n cap]=some x) (hz:(x.1.weights Tryz.prog 22).all (·≤reachBytes)=true) :
  ∃ (cs:Nat→Cfg) (vs:Nat→CfgV),CfgsAt w ao n cs vs∧n<2 ^ 57:=by
 rcases open_slice Tryz.underlying22 h with⟨h0,_⟩|⟨a,len,cp,m,k,D,Pl,hv,_,hl,hm,hmm,rfl,hx⟩
 ·simp only [List.cons.injEq,Value.slice.injEq,and_true] at h0
  obtain⟨rfl,rfl,rfl⟩:=h0
  exact⟨fun _=>⟨0,[],[],[]⟩,fun _=>⟨none,0,none,0,none,0⟩,Or.inl rfl,by decide⟩
 ·simp only [List.cons.injEq,Value.slice.injEq,and_true] at hv
  obtain⟨rfl,rfl,rfl⟩:=hv
  rw [Tryz.cellsConfig] at hx
  have hlm:n≤m:=by rw [hmm];split <;> omega
  have hw:((DataW.slice ((List.range n).map D) ((List.range (m-n)).map fun j=>D (n+j)):DataW H).weights Tryz.prog 22)=(n+(m-n))*80 :: (DataW.weightsAll Tryz.prog 31 ((List.range n).map D)++DataW.weightsAll Tryz.prog 31 ((List.range (m-n)).map fun j=>D (n+j))):=by
   simp [DataW.weights,Tryz.underlying22,Tryz.bytesConfig]
  rw [hw] at hz
  have hn:n<2 ^ 57:=by
   have:=all_le_mem hz (List.mem_cons_self ..)
   simp only [reachBytes] at this;omega
  have hel:∀ i,i<n→∃ p:Cfg × CfgV,(∀ j,j<4→w.cell? ((a.add (i*4)).add j)=(cfgCells p.1 p.2)[j]?)∧CfgOk p.1∧CfgAt w p.1 p.2∧CfgNil p.1 p.2:=by
   intro i hi
   obtain⟨cs',h1,h2⟩:=hx i (by omega)
   obtain⟨_,hlen,hc⟩:=World.cells?_some h1
   obtain⟨p,rfl,q1,q2,q3,_⟩:=open_config h2 (by
    rw [List.all_eq_true]
    intro y hy
    have:y ∈ DataW.weightsAll Tryz.prog 31 ((List.range n).map D):=weights_mem_all (d:=D i) (List.mem_map.2 ⟨i,by simpa using hi,rfl⟩) y hy
    have:=all_le_mem hz (List.mem_cons_of_mem _ (List.mem_append_left _ this))
    simpa using this)
   exact⟨p,fun j hj=>by rw [hc j hj];simp,q1,q2,q3⟩
  haveI:Inhabited (Cfg × CfgV):=⟨(⟨0,[],[],[]⟩,⟨none,0,none,0,none,0⟩)⟩
  obtain⟨f,hf⟩:=choose_lt hel
  refine⟨fun i=>(f i).1,fun i=>(f i).2,?_,hn⟩
  by_cases h0:n=0
  ·exact Or.inl h0
  ·right
   have hc:=(hf 0 (by omega)).1 0 (by omega)
   rw [Nat.zero_mul,add_add] at hc
   have hc':w.cell? (a.add 0)=some (.int .i64 (f 0).1.labels):=hc
   have ha:=spot_none hc'
   refine⟨a.block,a.off,congrArg some ha,?_,fun i hi=>⟨fun j hj=>?_,(hf i hi).2⟩⟩
   ·have hb:=Go.block_lt_of_cell hc'
    rw [ha] at hb
    simpa [add_plain] using hb
   ·have:=(hf i hi).1 j hj
    rw [add_add,ha,add_plain] at this
    rw [← this];congr 2;omega
end
end Go.Proofs.YtgigkiocdiffjaaGreat
