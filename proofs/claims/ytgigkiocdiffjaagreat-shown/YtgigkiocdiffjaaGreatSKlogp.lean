import Derived.Test.YtgigkiocdiffjaaGreatS32
set_option maxRecDepth 100000
set_option maxHeartbeats 16000000
namespace Go.Proofs.YtgigkiocdiffjaaGreat
open Veil
def editB (o:KS) (e:Int):Bool:=decide (1≤o.kind) && decide (o.kind≤4) && (e == 0)
def byI (o:KS):Int:=bif o.kind == 4 then o.label else o.level
def seesB (c:Cfg) (a:Int) (d:Nat):Bool:=okL c.labels a && c.le a d
def relB (o:KS) (e:Int) (d:Nat):Bool:=editB o e && (o.kind == 4) && (o.label == (d:Int))
section
variable {c:Cfg} {s:PSt}
theorem step_books (hn:(c.n:Int)=c.labels) (o:KS) (d:Nat) :
  ((stepSt c s o).V d=bif editB o (stepAns c s o).e && seesB c (byI o) d then s.V d+1 else s.V d) ∧
  ((stepSt c s o).L d=bif relB o (stepAns c s o).e d then s.L d++[⟨o.level,o.hi-o.lo,((stepSt c s o).V d:Nat)⟩] else s.L d) ∧
  (relB o (stepAns c s o).e d=true→(s.L d).length<8):=by
 by_cases k1:o.kind=1
 ·have e1:stepSt c s o=insRes c s o.level o.lo o.text:=by simp [stepSt,k1]
  have e2:stepAns c s o=.err (insCode c s.row o.level o.lo o.text):=by simp [stepAns,k1]
  have e3:∀ e,editB o e=(e == 0):=fun e=>by simp [editB,k1]
  have e4:∀ e,relB o e d=false:=fun e=>by simp [relB,k1]
  have e5:byI o=o.level:=by simp [byI,k1]
  rw [e1,e2,e3,e4,e5]
  show (_=bif (insCode c s.row o.level o.lo o.text == 0) && _ then _ else _)∧_
  unfold insRes
  cases h0:insCode c s.row o.level o.lo o.text == 0
  ·exact⟨rfl,rfl,fun h=>by cases h⟩
  ·obtain⟨_,hok⟩:=ins_codes (eq_of_beq h0)
   obtain⟨_,hle⟩:=okL_nt hn hok
   refine⟨?_,rfl,fun h=>by cases h⟩
   show tellV c o.level.toNat s.V d=_
   unfold tellV seesB
   rw [hok,← hle]
   rfl
 by_cases k2:o.kind=2
 ·have e1:stepSt c s o=delRes c s o.level o.lo o.hi:=by simp [stepSt,k2]
  have e2:stepAns c s o=.err (delCode c s.row o.level o.lo o.hi):=by simp [stepAns,k2]
  have e3:∀ e,editB o e=(e == 0):=fun e=>by simp [editB,k2]
  have e4:∀ e,relB o e d=false:=fun e=>by simp [relB,k2]
  have e5:byI o=o.level:=by simp [byI,k2]
  rw [e1,e2,e3,e4,e5]
  show (_=bif (delCode c s.row o.level o.lo o.hi == 0) && _ then _ else _)∧_
  unfold delRes
  cases h0:delCode c s.row o.level o.lo o.hi == 0
  ·exact⟨rfl,rfl,fun h=>by cases h⟩
  ·obtain⟨_,hok⟩:=del_codes (eq_of_beq h0)
   obtain⟨_,hle⟩:=okL_nt hn hok
   refine⟨?_,rfl,fun h=>by cases h⟩
   show tellV c o.level.toNat s.V d=_
   unfold tellV seesB
   rw [hok,← hle]
   rfl
 by_cases k3:o.kind=3
 ·have e1:stepSt c s o=raiRes c s o.level o.lo o.hi o.label:=by simp [stepSt,k3]
  have e2:stepAns c s o=.err (raiCode c s.row o.level o.lo o.hi o.label):=by simp [stepAns,k3]
  have e3:∀ e,editB o e=(e == 0):=fun e=>by simp [editB,k3]
  have e4:∀ e,relB o e d=false:=fun e=>by simp [relB,k3]
  have e5:byI o=o.level:=by simp [byI,k3]
  rw [e1,e2,e3,e4,e5]
  show (_=bif (raiCode c s.row o.level o.lo o.hi o.label == 0) && _ then _ else _)∧_
  unfold raiRes
  cases h0:raiCode c s.row o.level o.lo o.hi o.label == 0
  ·exact⟨rfl,rfl,fun h=>by cases h⟩
  ·obtain⟨_,hok⟩:=rai_codes (eq_of_beq h0)
   obtain⟨_,hle⟩:=okL_nt hn hok
   refine⟨?_,rfl,fun h=>by cases h⟩
   show tellV c o.level.toNat s.V d=_
   unfold tellV seesB
   rw [hok,← hle]
   rfl
 by_cases k4:o.kind=4
 ·have e1:stepSt c s o=relRes c s o.level o.lo o.hi o.label:=by simp [stepSt,k4]
  have e2:stepAns c s o=.err (relCode c s o.level o.lo o.hi o.label):=by simp [stepAns,k4]
  have e3:∀ e,editB o e=(e == 0):=fun e=>by simp [editB,k4]
  have e4:∀ e,relB o e d=((e == 0) && (o.label == (d:Int))):=fun e=>by simp [relB,k4,e3]
  have e5:byI o=o.label:=by simp [byI,k4]
  rw [e1,e2,e3,e4,e5]
  show (_=bif (relCode c s o.level o.lo o.hi o.label == 0) && _ then _ else _)∧(_=bif (relCode c s o.level o.lo o.hi o.label == 0) && _ then _ else _)∧(((relCode c s o.level o.lo o.hi o.label == 0) && _)=true→_)
  unfold relRes
  cases h0:relCode c s o.level o.lo o.hi o.label == 0
  ·exact⟨rfl,rfl,fun h=>by cases h⟩
  ·obtain⟨_,hokl,hok,_⟩:=rel_codes (eq_of_beq h0)
   obtain⟨_,hle⟩:=okL_nt hn hok
   obtain⟨_,hll⟩:=okL_nt hn hokl
   have hful:(s.L o.label.toNat).length<8:=by
    have h:=eq_of_beq h0
    unfold relCode at h
    obtain⟨_,h⟩:=cond_zero (by decide) h
    obtain⟨_,h⟩:=cond_zero (by decide) h
    obtain⟨_,h⟩:=cond_zero (by decide) h
    obtain⟨_,h⟩:=cond_zero (by decide) h
    obtain⟨_,h⟩:=cond_zero (by decide) h
    obtain⟨h',_⟩:=cond_zero (by decide) h
    simpa using h'
   have hpc:0≤o.lo∧o.lo<o.hi:=by
    have h:=eq_of_beq h0
    unfold relCode at h
    obtain⟨_,h⟩:=cond_zero (by decide) h
    obtain⟨_,h⟩:=cond_zero (by decide) h
    obtain⟨h',_⟩:=cond_zero (by decide) h
    unfold pieceB at h'
    simp only [Bool.not_eq_eq_eq_not,Bool.not_false,Bool.and_eq_true,decide_eq_true_eq] at h'
    exact h'.1
   refine⟨?_,?_,?_⟩
   ·show tellV c o.label.toNat s.V d=_
    unfold tellV seesB
    rw [hok,← hle]
    rfl
   ·show updF s.L o.label.toNat _ d=bif _ then s.L d++[⟨_,_,(tellV c o.label.toNat s.V d:Nat)⟩] else _
    unfold updF
    by_cases hd:d=o.label.toNat
    ·subst hd
     rw [if_pos rfl,← hle,show ((o.hi.toNat-o.lo.toNat:Nat):Int)=o.hi-o.lo by omega,← hll]
     simp
    ·have:(o.label == (d:Int))=false:=by
      rw [beq_eq_false_iff_ne]
      omega
     rw [if_neg hd,this]
     rfl
   ·intro h
    simp only [Bool.true_and,beq_iff_eq] at h
    rw [h] at hful
    exact hful
 have hed:∀ e,editB o e=false:=fun e=>by
  have:(decide (1≤o.kind) && decide (o.kind≤4))=false:=by
   cases h:(decide (1≤o.kind) && decide (o.kind≤4))
   ·rfl
   ·simp only [Bool.and_eq_true,decide_eq_true_eq] at h
    omega
  unfold editB
  rw [this]
  rfl
 have hre:∀ e,relB o e d=false:=fun e=>by unfold relB;rw [hed];rfl
 have hst:(stepSt c s o).V=s.V∧(stepSt c s o).L=s.L:=by
  simp only [stepSt,k1,k2,k3,k4,if_false]
  by_cases k10:o.kind=10
  ·rw [if_pos k10]
   cases okL c.labels o.level <;> exact⟨rfl,rfl⟩
  ·rw [if_neg k10]
   exact⟨rfl,rfl⟩
 rw [hed,hre,hst.1,hst.2]
 exact⟨rfl,rfl,fun h=>by cases h⟩
end
end Go.Proofs.YtgigkiocdiffjaaGreat
