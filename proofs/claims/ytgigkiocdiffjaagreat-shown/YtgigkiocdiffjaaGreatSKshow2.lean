import Derived.Test.YtgigkiocdiffjaaGreatSKshow
import Derived.Test.YtgigkiocdiffjaaGreatSKlogp
set_option maxRecDepth 100000
set_option maxHeartbeats 16000000
namespace Go.Proofs.YtgigkiocdiffjaaGreat
open Veil
section
variable {c:Cfg} {s:PSt} {d:Nat}
theorem step_same (hn:(c.n:Int)=c.labels) (o:KS) (h:(editB o (stepAns c s o).e && seesB c (byI o) d)=false):bytesL c (stepSt c s o).row d=bytesL c s.row d:=by
 by_cases k1:o.kind=1
 ·have e1:stepSt c s o=insRes c s o.level o.lo o.text:=by simp [stepSt,k1]
  have e2:stepAns c s o=.err (insCode c s.row o.level o.lo o.text):=by simp [stepAns,k1]
  have e3:∀ e,editB o e=(e == 0):=fun e=>by simp [editB,k1]
  have e5:byI o=o.level:=by simp [byI,k1]
  rw [e2,e3,e5] at h
  rw [e1]
  unfold insRes
  cases h0:insCode c s.row o.level o.lo o.text == 0
  ·rfl
  ·obtain⟨_,hok⟩:=ins_codes (eq_of_beq h0)
   obtain⟨_,hle⟩:=okL_nt hn hok
   have h:((insCode c s.row o.level o.lo o.text == 0) && seesB c o.level d)=false:=h
   rw [h0,Bool.true_and] at h
   unfold seesB at h
   rw [hok,Bool.true_and,hle] at h
   show bytesL c (putC s.row _ _) d=_
   rw [bytes_put,bytes_new_out h,List.append_nil,← bytes_cut]
 by_cases k2:o.kind=2
 ·have e1:stepSt c s o=delRes c s o.level o.lo o.hi:=by simp [stepSt,k2]
  have e2:stepAns c s o=.err (delCode c s.row o.level o.lo o.hi):=by simp [stepAns,k2]
  have e3:∀ e,editB o e=(e == 0):=fun e=>by simp [editB,k2]
  have e5:byI o=o.level:=by simp [byI,k2]
  rw [e2,e3,e5] at h
  rw [e1]
  unfold delRes
  cases h0:delCode c s.row o.level o.lo o.hi == 0
  ·rfl
  ·obtain⟨_,hok⟩:=del_codes (eq_of_beq h0)
   obtain⟨_,hle⟩:=okL_nt hn hok
   have h:((delCode c s.row o.level o.lo o.hi == 0) && seesB c o.level d)=false:=h
   rw [h0,Bool.true_and] at h
   unfold seesB at h
   rw [hok,Bool.true_and,hle] at h
   exact bytes_mark (m:=⟨2,o.level.toNat,0⟩) h _ _
 by_cases k3:o.kind=3
 ·have e1:stepSt c s o=raiRes c s o.level o.lo o.hi o.label:=by simp [stepSt,k3]
  have e2:stepAns c s o=.err (raiCode c s.row o.level o.lo o.hi o.label):=by simp [stepAns,k3]
  have e3:∀ e,editB o e=(e == 0):=fun e=>by simp [editB,k3]
  have e5:byI o=o.level:=by simp [byI,k3]
  rw [e2,e3,e5] at h
  rw [e1]
  unfold raiRes
  cases h0:raiCode c s.row o.level o.lo o.hi o.label == 0
  ·rfl
  ·obtain⟨_,hok⟩:=rai_codes (eq_of_beq h0)
   obtain⟨_,hle⟩:=okL_nt hn hok
   have h:((raiCode c s.row o.level o.lo o.hi o.label == 0) && seesB c o.level d)=false:=h
   rw [h0,Bool.true_and] at h
   unfold seesB at h
   rw [hok,Bool.true_and,hle] at h
   exact bytes_mark (m:=⟨3,o.level.toNat,o.label.toNat⟩) h _ _
 by_cases k4:o.kind=4
 ·have e1:stepSt c s o=relRes c s o.level o.lo o.hi o.label:=by simp [stepSt,k4]
  have e2:stepAns c s o=.err (relCode c s o.level o.lo o.hi o.label):=by simp [stepAns,k4]
  have e3:∀ e,editB o e=(e == 0):=fun e=>by simp [editB,k4]
  have e5:byI o=o.label:=by simp [byI,k4]
  rw [e2,e3,e5] at h
  rw [e1]
  unfold relRes
  cases h0:relCode c s o.level o.lo o.hi o.label == 0
  ·rfl
  ·obtain⟨_,_,hok,_⟩:=rel_codes (eq_of_beq h0)
   obtain⟨_,hle⟩:=okL_nt hn hok
   have h:((relCode c s o.level o.lo o.hi o.label == 0) && seesB c o.label d)=false:=h
   rw [h0,Bool.true_and] at h
   unfold seesB at h
   rw [hok,Bool.true_and,hle] at h
   exact bytes_mark (m:=⟨4,o.label.toNat,0⟩) h _ _
 by_cases k10:o.kind=10
 ·cases hok:okL c.labels o.level
  ·rw [show stepSt c s o=s by simp [stepSt,k10,hok]]
  ·rw [show stepSt c s o=⟨s.row,s.L,s.V,updF s.W o.level.toNat []⟩ by simp [stepSt,k10,hok]]
 ·rw [show stepSt c s o=s by simp [stepSt,k1,k2,k3,k4,k10]]
theorem sees_le (hn:(c.n:Int)=c.labels) {a:Int} (h:seesB c a d=true):c.le a.toNat d=true:=by
 unfold seesB at h
 obtain⟨h1,h2⟩:=Bool.and_eq_true_iff.1 h
 obtain⟨_,hle⟩:=okL_nt hn h1
 rw [← hle]
 exact h2
theorem step_ins (hn:(c.n:Int)=c.labels) (o:KS) (k1:o.kind=1) (he:(stepAns c s o).e=0) (hs:seesB c o.level d=true) (hg:RowGood c (stepSt c s o).row):∃ X Y,showL c s.row d=X++Y∧showL c (stepSt c s o).row d=X++(newC o.text o.level.toNat o.text.size).map (·.b)++Y:=by
 have e2:insCode c s.row o.level o.lo o.text=0:=by
  rw [show stepAns c s o=.err (insCode c s.row o.level o.lo o.text) by simp [stepAns,k1]] at he
  exact he
 have e1:stepSt c s o=insSt c s o.level.toNat o.lo.toNat o.text:=by simp [stepSt,k1,insRes,e2]
 rw [e1] at hg
 rw [e1]
 have hno:noMask ((newC o.text o.level.toNat o.text.size).map (·.b))=(newC o.text o.level.toNat o.text.size).map (·.b):=by
  unfold noMask
  rw [List.filter_eq_self]
  intro b hb
  obtain⟨x,hx,rfl⟩:=List.mem_map.1 hb
  have:=(hg.cells x (by show x ∈ putC _ _ _;unfold putC;simp [hx])).2
  simpa using this
 refine⟨noMask (bytesL c (s.row.take (behindR (placesR c s.row o.level.toNat) o.lo.toNat)) d),noMask (bytesL c (s.row.drop (behindR (placesR c s.row o.level.toNat) o.lo.toNat)) d),?_,?_⟩
 ·unfold showL
  rw [bytes_cut s.row (behindR (placesR c s.row o.level.toNat) o.lo.toNat)]
  unfold noMask
  rw [List.filter_append]
 ·unfold showL
  show noMask (bytesL c (putC s.row _ _) d)=_
  rw [bytes_put,bytes_new_in (sees_le hn hs),← hno]
  unfold noMask
  rw [List.filter_append,List.filter_append,List.filter_filter]
  simp
theorem step_less (hn:(c.n:Int)=c.labels) (hu:Up c) (hlat:¬ c.noLat) (hg:RowGood c s.row) (o:KS) (hk:o.kind=2∨o.kind=3) (he:(stepAns c s o).e=0):(showL c (stepSt c s o).row d).Sublist (showL c s.row d):=by
 have hok:∀ x,x ∈ s.row→RCOk c x:=fun x hx=>(hg.cells x hx).1
 rcases hk with k2|k3
 ·have e2:delCode c s.row o.level o.lo o.hi=0:=by
   rw [show stepAns c s o=.err (delCode c s.row o.level o.lo o.hi) by simp [stepAns,k2]] at he
   exact he
  rw [show stepSt c s o=markSt c s o.level.toNat o.lo.toNat o.hi.toNat o.level.toNat ⟨2,o.level.toNat,0⟩ by simp [stepSt,k2,delRes,e2]]
  obtain⟨_,h1⟩:=del_codes e2
  have:=(okL_nt hn h1).1
  exact show_less hu hlat (m:=⟨2,o.level.toNat,0⟩) ⟨this,by show 0<c.n;omega⟩ (Or.inl rfl) _ hok
 ·have e2:raiCode c s.row o.level o.lo o.hi o.label=0:=by
   rw [show stepAns c s o=.err (raiCode c s.row o.level o.lo o.hi o.label) by simp [stepAns,k3]] at he
   exact he
  rw [show stepSt c s o=markSt c s o.level.toNat o.lo.toNat o.hi.toNat o.level.toNat ⟨3,o.level.toNat,o.label.toNat⟩ by simp [stepSt,k3,raiRes,e2]]
  obtain⟨_,h1⟩:=rai_codes e2
  have h2:okL c.labels o.label=true:=by
   unfold raiCode at e2
   obtain⟨h2,_⟩:=cond_zero (by decide) e2
   simp only [Bool.or_eq_false_iff] at h2
   simpa using h2.2
  exact show_less hu hlat (m:=⟨3,o.level.toNat,o.label.toNat⟩) ⟨(okL_nt hn h1).1,(okL_nt hn h2).1⟩ (Or.inr rfl) _ hok
theorem step_more (hn:(c.n:Int)=c.labels) (hg:RowGood c s.row) (o:KS) (k4:o.kind=4) (he:(stepAns c s o).e=0):(showL c s.row d).Sublist (showL c (stepSt c s o).row d):=by
 have hok:∀ x,x ∈ s.row→RCOk c x:=fun x hx=>(hg.cells x hx).1
 have e2:relCode c s o.level o.lo o.hi o.label=0:=by
  rw [show stepAns c s o=.err (relCode c s o.level o.lo o.hi o.label) by simp [stepAns,k4]] at he
  exact he
 rw [show stepSt c s o=relSt c s o.level.toNat o.lo.toNat o.hi.toNat o.label.toNat by simp [stepSt,k4,relRes,e2]]
 obtain⟨_,_,h1,_⟩:=rel_codes e2
 have:=(okL_nt hn h1).1
 exact show_more (m:=⟨4,o.label.toNat,0⟩) ⟨this,by show 0<c.n;omega⟩ rfl _ hok
end
end Go.Proofs.YtgigkiocdiffjaaGreat
