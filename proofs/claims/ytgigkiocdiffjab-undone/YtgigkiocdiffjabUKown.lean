import Derived.Test.YtgigkiocdiffjabU32
set_option maxRecDepth 100000
set_option maxHeartbeats 16000000
namespace Go.Proofs.Ytgigkiocdiffjab
open Veil
def insOf (c:Cfg) (s:PSt) (lv:Nat) (o:KS):Nat:=bif (o.kind == 1) && (o.level == (lv:Int)) && ((stepAns c s o).e == 0) then o.text.size else 0
section
variable {c:Cfg} {s:PSt} {lv:Nat}
theorem own_or (row:List RC):ownC row lv=((row.map (·.origin)).filter fun (o:Nat)=>o == lv).length:=by
 unfold ownC
 rw [List.filter_map,List.length_map]
 rfl
theorem own_mark (m:Mk) (L:List Nat):∀ row:List RC,ownC (markAll row L m) lv=ownC row lv:=by
 induction L with
 | nil=>intro row;rfl
 | cons r L ih=>
  intro row
  show ownC (markAll (markC row r m) L m) lv=_
  rw [ih,own_or,own_or,markC_origin]
theorem own_put (row new:List RC) (k:Nat):ownC (putC row new k) lv=ownC row lv+ownC new lv:=by
 have h:ownC row lv=ownC (row.take k) lv+ownC (row.drop k) lv:=by
  unfold ownC
  rw [← List.length_append,← List.filter_append,List.take_append_drop]
 rw [h]
 unfold ownC putC
 rw [List.filter_append,List.filter_append,List.length_append,List.length_append]
 omega
theorem own_new (t:ByteArray) (l:Nat):ownC (newC t l t.size) lv=bif l == lv then t.size else 0:=by
 have hlen:(newC t l t.size).length=t.size:=newC_length _ _ _
 unfold ownC
 cases h:l == lv
 ·rw [cond_false,List.length_eq_zero_iff,List.filter_eq_nil_iff]
  intro x hx
  obtain⟨b,rfl⟩:=new_form hx
  simpa using h
 ·rw [cond_true,List.filter_eq_self.2,hlen]
  intro x hx
  obtain⟨b,rfl⟩:=new_form hx
  exact h
theorem step_own (hn:(c.n:Int)=c.labels) (o:KS):ownC (stepSt c s o).row lv=ownC s.row lv+insOf c s lv o:=by
 unfold insOf
 by_cases k1:o.kind=1
 ·have e1:stepSt c s o=insRes c s o.level o.lo o.text:=by simp [stepSt,k1]
  have e2:stepAns c s o=.err (insCode c s.row o.level o.lo o.text):=by simp [stepAns,k1]
  have e3:(o.kind == 1)=true:=by simpa using k1
  rw [e1,e2,e3]
  unfold insRes
  show _=_+bif true && (o.level == (lv:Int)) && (insCode c s.row o.level o.lo o.text == 0) then _ else _
  cases h0:insCode c s.row o.level o.lo o.text == 0
  ·rw [Bool.and_false];rfl
  ·obtain⟨_,hok⟩:=ins_codes (eq_of_beq h0)
   obtain⟨_,hle⟩:=okL_nt hn hok
   show ownC (putC s.row _ _) lv=_
   rw [own_put,own_new,Bool.and_true,Bool.true_and]
   have:(o.level.toNat == lv)=(o.level == (lv:Int)):=by
    rw [Bool.eq_iff_iff,beq_iff_eq,beq_iff_eq]
    omega
   rw [this]
 have e3:(o.kind == 1)=false:=by simpa using k1
 rw [e3]
 show _=ownC s.row lv
 by_cases k2:o.kind=2
 ·rw [show stepSt c s o=delRes c s o.level o.lo o.hi by simp [stepSt,k2]]
  unfold delRes
  cases delCode c s.row o.level o.lo o.hi == 0
  ·rfl
  ·exact own_mark _ _ _
 by_cases k3:o.kind=3
 ·rw [show stepSt c s o=raiRes c s o.level o.lo o.hi o.label by simp [stepSt,k3]]
  unfold raiRes
  cases raiCode c s.row o.level o.lo o.hi o.label == 0
  ·rfl
  ·exact own_mark _ _ _
 by_cases k4:o.kind=4
 ·rw [show stepSt c s o=relRes c s o.level o.lo o.hi o.label by simp [stepSt,k4]]
  unfold relRes
  cases relCode c s o.level o.lo o.hi o.label == 0
  ·rfl
  ·exact own_mark _ _ _
 by_cases k10:o.kind=10
 ·cases hok:okL c.labels o.level
  ·rw [show stepSt c s o=s by simp [stepSt,k10,hok]]
  ·rw [show stepSt c s o=⟨s.row,s.L,s.V,updF s.W o.level.toNat []⟩ by simp [stepSt,k10,hok]]
 ·rw [show stepSt c s o=s by simp [stepSt,k1,k2,k3,k4,k10]]
end
end Go.Proofs.Ytgigkiocdiffjab
