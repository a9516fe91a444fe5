import Derived.Test.YtgigkiocdiffjaaGreatE49
import Derived.Test.YtgigkiocdiffjaaGreatE27
import Derived.Test.YtgigkiocdiffjaaGreatE30
import Derived.ChangeOld
import Derived.Below
set_option maxRecDepth 100000
set_option maxHeartbeats 16000000
namespace Go.Proofs.YtgigkiocdiffjaaGreat
open Go.ChangeShapes Go.WideShapes Go.ChangeAt Go.RowKit Veil
theorem own_logs:ownKnob Tryz.prog.godebug=none:=by kernel_rfl
theorem laidOut_logs:laidOutB Tryz.prog=true:=by kernel_rfl
theorem logs_lifted (os:Os) (started:os.Started) (H:Type) (enc:TypeId × Value→H) :
  ReturnsInHanded {} Tryz.checked os 10 .any (Rows.logsSpec.pre6 enc Tryz.prog Tryz.f10 Rows.logsRow.domain false) (Rows.logsSpec.post enc Tryz.prog Tryz.f10 false true false false):=by
 refine returnsInHanded_of_change_sized (C:=Tryz.checked) own_logs started (by kernel_rfl) Tryz.func10
  (ChangeSpec.witness6 (enc:=enc) (C:=Tryz.checked) false ⟨#[],#[.slice none 0 0,.slice none 0 0],[]⟩ 8 (by kernel_rfl) (by kernel_rfl) (by kernel_rfl) (by kernel_rfl)) ?_
 intro W base args ds gs before hval0 hW hcnd hsz0 _
 have hval:∀ (j:Nat) t v,Tryz.f10.params[j]?=some t→args[j]?=some v→Value.okWide Tryz.prog W .any base t v:=hval0
 have hsz:(DataW.weightsEach Tryz.prog (Tryz.f10.params.toList++Rows.logsSpec.plain.varTypes Tryz.prog) (ds++gs)).all (·≤reachBytes)=true:=hsz0
 have hW':=hW
 obtain⟨p,q,hA0,hV,rfl,hfz,hnd⟩:=hW
 have hA:DataW.TrodAll enc Tryz.prog W 0 (fun _=>true) true Tryz.f10.params.toList args.toList ds p:=hA0
 rw [Tryz.params10] at hA hval hsz
 obtain⟨v0,vs0,d0,ds0,p0,q0,hargs,rfl,rfl,h0,r0⟩:=trodAll_cons hA
 obtain⟨v1,vs1,d1,ds1,p1,q1,rfl,rfl,rfl,h1,r1⟩:=trodAll_cons r0
 obtain⟨rfl,rfl,rfl⟩:=trodAll_nil r1
 obtain rfl:args=#[v0,v1]:=by cases args;simp_all
 obtain⟨rfl,rfl⟩:=trodVars_none hV
 obtain⟨co,cn,cc,rfl⟩:=okWide_slice Tryz.underlying22 (hval 0 22 v0 rfl rfl)
 obtain⟨ao,n,cap,rfl⟩:=okWide_slice Tryz.underlying23 (hval 1 23 v1 rfl rfl)
 have k0:=h0
 have lt0:∀ x ∈ p0,x.block<W.heap.size:=by obtain⟨m,hm⟩:=k0;exact DataW.trod_lt m _ _ _ hm
 have k1:=h1
 have lt1:∀ x ∈ p1,x.block<W.heap.size:=by obtain⟨m,hm⟩:=k1;exact DataW.trod_lt m _ _ _ hm
 obtain⟨fuel,hf⟩:=h1
 obtain⟨ops,ho1,ho2,ho3⟩:=open_ops2 (by simpa [Value.cells] using hf) (by
  rw [List.all_eq_true]
  intro y hy
  exact List.all_eq_true.1 hsz y (DataW.weights_mem_each (j:=1) (t:=23) (d:=d1) rfl rfl y hy))
 obtain⟨fuel0,hf0⟩:=h0
 obtain⟨cs,vs,hc1,hc2⟩:=open_cfgs (by simpa [Value.cells] using hf0) (by
  rw [List.all_eq_true]
  intro y hy
  exact List.all_eq_true.1 hsz y (DataW.weights_mem_each (j:=0) (t:=22) (d:=d0) rfl rfl y hy))
 clear hA0 hval0
 refine (law_logs co cn cc ao n cap ops cs vs W ho1 ho2 hc1 hc2 (fun i hi=>⟨(ho3 i hi).2.1,(ho3 i hi).2.2.2.2⟩)).mono fun e W' ⟨he,bel⟩=>?_
 subst he
 exact⟨_,rfl,_,_,_,[],_,[],hW',trodAll_mk1 (shut_bool Tryz.underlying4 _),(trodAll_cons_mk (Below.trod laidOut_logs (by kernel_rfl) (of_decide_eq_true (by kernel_rfl)) k0 bel lt0) (trodAll_cons_mk (Below.trod laidOut_logs (by kernel_rfl) (of_decide_eq_true (by kernel_rfl)) k1 bel lt1) trodAll_mk0)),rfl,bel.frame _,fun h=>by cases h⟩
theorem logs_holds:Rows.LogsSaid:=
 OpenClaim.holds_of_wide 10 Tryz.f10 rfl rfl rfl rfl rfl rfl rfl ⟨rfl,rfl,rfl,rfl,rfl⟩ rfl rfl rfl rfl rfl (by kernel_rfl) Tryz.func10 (by kernel_rfl)
  (of_decide_eq_true (by kernel_rfl)) (by unfold Func.isWrapper;first|(rw [if_pos (by decide +kernel)];kernel_rfl)|(rw [if_neg (by decide +kernel)];exact⟨rfl,rfl⟩))
  (fun os started H enc _=>logs_lifted os started H enc)
end Go.Proofs.YtgigkiocdiffjaaGreat
