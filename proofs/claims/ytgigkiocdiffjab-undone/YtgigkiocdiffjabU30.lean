import Derived.Test.YtgigkiocdiffjabU29
set_option maxRecDepth 100000
set_option maxHeartbeats 16000000
namespace Go.Proofs.Ytgigkiocdiffjab
open Go.RowKit Veil
theorem does_spans (g:Nat) (o:KS) (C:World→Value→List (Int × Int × Int)→Int→Prop) (w:World) (hk:o.kind=6)
  (hC:∀ w',Below w.heap.size w w'→w.heap.size+1<w'.heap.size→Calls Try.prog 28 #[.pointer (some ⟨g,0,none⟩),.int .i64 o.level] w' fun e w''=>∃ (v:Value) (l:List (Int × Int × Int)) (code:Int),e=.returned (.tuple #[v,.int .i64 code])∧C w'' v l code∧SeqV 3 s3V w'' v l∧l.length≤100000∧w'.heap.size≤w''.heap.size∧∀ j,w.heap.size≤j→j<w'.heap.size→w''.heap[j]?=w'.heap[j]?) :
  Calls Try.prog 9 #[.pointer (some ⟨g,0,none⟩),.agg o.cells] w fun e w'=>∃ (v:Value) (l:List (Int × Int × Int)) (code:Int) (vl:Value) (w2 w3:World),e=.returned (.agg (toldC code 0 ⟨#[]⟩ vl))∧C w2 v l code∧w.heap.size+1<w2.heap.size∧OwnL 3 1 inV w3 w2.heap.size vl (l.flatMap nums3)∧Below w2.heap.size w2 w3∧Only (fun b=>b=w.heap.size+1) w3 w':=by
 have HC:=hide hC
 clear hC
 obtain⟨kind,level,lo,hi,label,text⟩:=o
 simp only at hk
 subst hk
 unfold KS.cells toldC at *
 simp only at *
 have hb0:Below w.heap.size w ((w.alloc (.cells #[.int .i64 6,.int .i64 level,.int .i64 lo,.int .i64 hi,.int .i64 label,.string text] 40)).alloc (.cells #[.int .i64 0,.int .i64 0,.string ⟨#[]⟩,.slice none 0 0] 37)):=(below_box w _).alloc (by simp) _
 have HN2:=hide (told_new w (.cells #[.int .i64 6,.int .i64 level,.int .i64 lo,.int .i64 hi,.int .i64 label,.string text] 40) (.cells #[.int .i64 0,.int .i64 0,.string ⟨#[]⟩,.slice none 0 0] 37))
 go_enter Try.func9,Try.ntmps9
 go_wp2_with fail
 refine (HC.out _ hb0 (by simp)).mono ?_
 rintro e w1 ⟨v,l,code,rfl,hc,hsq,hln,hsz,hkeep⟩
 have HC1:=hide hc
 have HSQ:=hide hsq
 obtain⟨sao,scap,sb,hvv,_⟩:=hsq
 have hr:=(hkeep (w.heap.size+1) (by omega) (by simp)).trans HN2.out
 have hsz2:w.heap.size+1<w1.heap.size:=by
  rcases Nat.lt_or_ge (w.heap.size+1) w1.heap.size with h|h
  ·exact h
  ·rw [Array.getElem?_eq_none h] at hr;exact absurd hr (by simp)
 have HR0:=hide hr
 clear hc hkeep hr hsz
 subst hvv
 go_wp2_with fail
 refine (kspans_any l _ w1 HSQ.out hln).mono ?_
 rintro e w3 ⟨vl,rfl,hown,hbel⟩
 have HOW:=hide hown
 obtain⟨lao,lcap,hvl⟩:=hown.shape
 have hr:w3.heap[w.heap.size+1]?=_:=(hbel.block _ hsz2).trans HR0.out
 have t0:w3.cell? ⟨w.heap.size+1,0,none⟩=some (.int .i64 0):=(cell_of_row _ _ _ _ _ _ hr).trans rfl
 have t1:w3.cell? ⟨w.heap.size+1,1,none⟩=some (.int .i64 0):=(cell_of_row _ _ _ _ _ _ hr).trans rfl
 have t2:w3.cell? ⟨w.heap.size+1,2,none⟩=some (.string ⟨#[]⟩):=(cell_of_row _ _ _ _ _ _ hr).trans rfl
 have t3:w3.cell? ⟨w.heap.size+1,3,none⟩=some (.slice none 0 0):=(cell_of_row _ _ _ _ _ _ hr).trans rfl
 have f0:=frozen_of_row _ _ 0 _ _ hr
 have f1:=frozen_of_row _ _ 1 _ _ hr
 have f2:=frozen_of_row _ _ 2 _ _ hr
 have f3:=frozen_of_row _ _ 3 _ _ hr
 have HR:=hide hr
 clear hr hown
 generalize hLL:(l.flatMap nums3).length=L at hvl
 subst hvl
 have HRES:=hide (told_set (a:=(.int .i64 code)) (b:=(.int .i64 0)) (c:=(.string ⟨#[]⟩)) (d:=(.slice lao L lcap)) HR.out)
 go_wp2
 exact bodyPost_ret (results_cell_row Try.results9 _ _ (w.heap.size+1) 37 #[(.int .i64 code),(.int .i64 0),(.string ⟨#[]⟩),(.slice lao L lcap)] (0,0) _ (by simp) HRES.out Try.underlying37 rfl (by rw [Try.sizeTold];rfl)) rfl ⟨_,l,code,_,w1,w3,rfl,HC1.out,hsz2,HOW.out,hbel,only_set4⟩
theorem does_log (g:Nat) (o:KS) (C:World→Value→List Rec→Int→Prop) (w:World) (hk:o.kind=9)
  (hC:∀ w',Below w.heap.size w w'→w.heap.size+1<w'.heap.size→Calls Try.prog 32 #[.pointer (some ⟨g,0,none⟩),.int .i64 o.level] w' fun e w''=>∃ (v:Value) (l:List Rec) (code:Int),e=.returned (.tuple #[v,.int .i64 code])∧C w'' v l code∧SeqV 3 recV w'' v l∧l.length≤100000∧w'.heap.size≤w''.heap.size∧∀ j,w.heap.size≤j→j<w'.heap.size→w''.heap[j]?=w'.heap[j]?) :
  Calls Try.prog 9 #[.pointer (some ⟨g,0,none⟩),.agg o.cells] w fun e w'=>∃ (v:Value) (l:List Rec) (code:Int) (vl:Value) (w2 w3:World),e=.returned (.agg (toldC code 0 ⟨#[]⟩ vl))∧C w2 v l code∧w.heap.size+1<w2.heap.size∧OwnL 3 1 inV w3 w2.heap.size vl (l.flatMap numsR)∧Below w2.heap.size w2 w3∧Only (fun b=>b=w.heap.size+1) w3 w':=by
 have HC:=hide hC
 clear hC
 obtain⟨kind,level,lo,hi,label,text⟩:=o
 simp only at hk
 subst hk
 unfold KS.cells toldC at *
 simp only at *
 have hb0:Below w.heap.size w ((w.alloc (.cells #[.int .i64 9,.int .i64 level,.int .i64 lo,.int .i64 hi,.int .i64 label,.string text] 40)).alloc (.cells #[.int .i64 0,.int .i64 0,.string ⟨#[]⟩,.slice none 0 0] 37)):=(below_box w _).alloc (by simp) _
 have HN2:=hide (told_new w (.cells #[.int .i64 9,.int .i64 level,.int .i64 lo,.int .i64 hi,.int .i64 label,.string text] 40) (.cells #[.int .i64 0,.int .i64 0,.string ⟨#[]⟩,.slice none 0 0] 37))
 go_enter Try.func9,Try.ntmps9
 go_wp2_with fail
 refine (HC.out _ hb0 (by simp)).mono ?_
 rintro e w1 ⟨v,l,code,rfl,hc,hsq,hln,hsz,hkeep⟩
 have HC1:=hide hc
 have HSQ:=hide hsq
 obtain⟨sao,scap,sb,hvv,_⟩:=hsq
 have hr:=(hkeep (w.heap.size+1) (by omega) (by simp)).trans HN2.out
 have hsz2:w.heap.size+1<w1.heap.size:=by
  rcases Nat.lt_or_ge (w.heap.size+1) w1.heap.size with h|h
  ·exact h
  ·rw [Array.getElem?_eq_none h] at hr;exact absurd hr (by simp)
 have HR0:=hide hr
 clear hc hkeep hr hsz
 subst hvv
 go_wp2_with fail
 refine (krecords_any l _ w1 HSQ.out hln).mono ?_
 rintro e w3 ⟨vl,rfl,hown,hbel⟩
 have HOW:=hide hown
 obtain⟨lao,lcap,hvl⟩:=hown.shape
 have hr:w3.heap[w.heap.size+1]?=_:=(hbel.block _ hsz2).trans HR0.out
 have t0:w3.cell? ⟨w.heap.size+1,0,none⟩=some (.int .i64 0):=(cell_of_row _ _ _ _ _ _ hr).trans rfl
 have t1:w3.cell? ⟨w.heap.size+1,1,none⟩=some (.int .i64 0):=(cell_of_row _ _ _ _ _ _ hr).trans rfl
 have t2:w3.cell? ⟨w.heap.size+1,2,none⟩=some (.string ⟨#[]⟩):=(cell_of_row _ _ _ _ _ _ hr).trans rfl
 have t3:w3.cell? ⟨w.heap.size+1,3,none⟩=some (.slice none 0 0):=(cell_of_row _ _ _ _ _ _ hr).trans rfl
 have f0:=frozen_of_row _ _ 0 _ _ hr
 have f1:=frozen_of_row _ _ 1 _ _ hr
 have f2:=frozen_of_row _ _ 2 _ _ hr
 have f3:=frozen_of_row _ _ 3 _ _ hr
 have HR:=hide hr
 clear hr hown
 generalize hLL:(l.flatMap numsR).length=L at hvl
 subst hvl
 have HRES:=hide (told_set (a:=(.int .i64 code)) (b:=(.int .i64 0)) (c:=(.string ⟨#[]⟩)) (d:=(.slice lao L lcap)) HR.out)
 go_wp2
 exact bodyPost_ret (results_cell_row Try.results9 _ _ (w.heap.size+1) 37 #[(.int .i64 code),(.int .i64 0),(.string ⟨#[]⟩),(.slice lao L lcap)] (0,0) _ (by simp) HRES.out Try.underlying37 rfl (by rw [Try.sizeTold];rfl)) rfl ⟨_,l,code,_,w1,w3,rfl,HC1.out,hsz2,HOW.out,hbel,only_set4⟩
theorem does_poll (g:Nat) (o:KS) (C:World→Value→List No→Int→Prop) (w:World) (hk:o.kind=10)
  (hC:∀ w',Below w.heap.size w w'→w.heap.size+1<w'.heap.size→Calls Try.prog 34 #[.pointer (some ⟨g,0,none⟩),.int .i64 o.level] w' fun e w''=>∃ (v:Value) (l:List No) (code:Int),e=.returned (.tuple #[v,.int .i64 code])∧C w'' v l code∧SeqV 2 noV w'' v l∧l.length≤100000∧w'.heap.size≤w''.heap.size∧∀ j,w.heap.size≤j→j<w'.heap.size→w''.heap[j]?=w'.heap[j]?) :
  Calls Try.prog 9 #[.pointer (some ⟨g,0,none⟩),.agg o.cells] w fun e w'=>∃ (v:Value) (l:List No) (code:Int) (vl:Value) (w2 w3:World),e=.returned (.agg (toldC code 0 ⟨#[]⟩ vl))∧C w2 v l code∧w.heap.size+1<w2.heap.size∧OwnL 3 1 inV w3 w2.heap.size vl (l.flatMap numsN)∧Below w2.heap.size w2 w3∧Only (fun b=>b=w.heap.size+1) w3 w':=by
 have HC:=hide hC
 clear hC
 obtain⟨kind,level,lo,hi,label,text⟩:=o
 simp only at hk
 subst hk
 unfold KS.cells toldC at *
 simp only at *
 have hb0:Below w.heap.size w ((w.alloc (.cells #[.int .i64 10,.int .i64 level,.int .i64 lo,.int .i64 hi,.int .i64 label,.string text] 40)).alloc (.cells #[.int .i64 0,.int .i64 0,.string ⟨#[]⟩,.slice none 0 0] 37)):=(below_box w _).alloc (by simp) _
 have HN2:=hide (told_new w (.cells #[.int .i64 10,.int .i64 level,.int .i64 lo,.int .i64 hi,.int .i64 label,.string text] 40) (.cells #[.int .i64 0,.int .i64 0,.string ⟨#[]⟩,.slice none 0 0] 37))
 go_enter Try.func9,Try.ntmps9
 go_wp2_with fail
 refine (HC.out _ hb0 (by simp)).mono ?_
 rintro e w1 ⟨v,l,code,rfl,hc,hsq,hln,hsz,hkeep⟩
 have HC1:=hide hc
 have HSQ:=hide hsq
 obtain⟨sao,scap,sb,hvv,_⟩:=hsq
 have hr:=(hkeep (w.heap.size+1) (by omega) (by simp)).trans HN2.out
 have hsz2:w.heap.size+1<w1.heap.size:=by
  rcases Nat.lt_or_ge (w.heap.size+1) w1.heap.size with h|h
  ·exact h
  ·rw [Array.getElem?_eq_none h] at hr;exact absurd hr (by simp)
 have HR0:=hide hr
 clear hc hkeep hr hsz
 subst hvv
 go_wp2_with fail
 refine (knotices_any l _ w1 HSQ.out hln).mono ?_
 rintro e w3 ⟨vl,rfl,hown,hbel⟩
 have HOW:=hide hown
 obtain⟨lao,lcap,hvl⟩:=hown.shape
 have hr:w3.heap[w.heap.size+1]?=_:=(hbel.block _ hsz2).trans HR0.out
 have t0:w3.cell? ⟨w.heap.size+1,0,none⟩=some (.int .i64 0):=(cell_of_row _ _ _ _ _ _ hr).trans rfl
 have t1:w3.cell? ⟨w.heap.size+1,1,none⟩=some (.int .i64 0):=(cell_of_row _ _ _ _ _ _ hr).trans rfl
 have t2:w3.cell? ⟨w.heap.size+1,2,none⟩=some (.string ⟨#[]⟩):=(cell_of_row _ _ _ _ _ _ hr).trans rfl
 have t3:w3.cell? ⟨w.heap.size+1,3,none⟩=some (.slice none 0 0):=(cell_of_row _ _ _ _ _ _ hr).trans rfl
 have f0:=frozen_of_row _ _ 0 _ _ hr
 have f1:=frozen_of_row _ _ 1 _ _ hr
 have f2:=frozen_of_row _ _ 2 _ _ hr
 have f3:=frozen_of_row _ _ 3 _ _ hr
 have HR:=hide hr
 clear hr hown
 generalize hLL:(l.flatMap numsN).length=L at hvl
 subst hvl
 have HRES:=hide (told_set (a:=(.int .i64 code)) (b:=(.int .i64 0)) (c:=(.string ⟨#[]⟩)) (d:=(.slice lao L lcap)) HR.out)
 go_wp2
 exact bodyPost_ret (results_cell_row Try.results9 _ _ (w.heap.size+1) 37 #[(.int .i64 code),(.int .i64 0),(.string ⟨#[]⟩),(.slice lao L lcap)] (0,0) _ (by simp) HRES.out Try.underlying37 rfl (by rw [Try.sizeTold];rfl)) rfl ⟨_,l,code,_,w1,w3,rfl,HC1.out,hsz2,HOW.out,hbel,only_set4⟩
theorem does_none (g:Nat) (o:KS) (w:World) (hk:o.kind<1∨10<o.kind) :
  Calls Try.prog 9 #[.pointer (some ⟨g,0,none⟩),.agg o.cells] w fun e w'=>e=.returned (.agg (toldC 0 0 ⟨#[]⟩ (.slice none 0 0)))∧Below w.heap.size w w':=by
 obtain⟨kind,level,lo,hi,label,text⟩:=o
 simp only at hk
 unfold KS.cells toldC at *
 simp only at *
 have n1:decide (kind=1)=false:=decide_eq_false (by omega)
 have n2:decide (kind=2)=false:=decide_eq_false (by omega)
 have n3:decide (kind=3)=false:=decide_eq_false (by omega)
 have n4:decide (kind=4)=false:=decide_eq_false (by omega)
 have n5:decide (kind=5)=false:=decide_eq_false (by omega)
 have n6:decide (kind=6)=false:=decide_eq_false (by omega)
 have n7:decide (kind=7)=false:=decide_eq_false (by omega)
 have n8:decide (kind=8)=false:=decide_eq_false (by omega)
 have n9:decide (kind=9)=false:=decide_eq_false (by omega)
 have n10:decide (kind=10)=false:=decide_eq_false (by omega)
 have m1:(kind == 1)=false:=by rw [beq_eq_false_iff_ne];omega
 have m2:(kind == 2)=false:=by rw [beq_eq_false_iff_ne];omega
 have m3:(kind == 3)=false:=by rw [beq_eq_false_iff_ne];omega
 have m4:(kind == 4)=false:=by rw [beq_eq_false_iff_ne];omega
 have m5:(kind == 5)=false:=by rw [beq_eq_false_iff_ne];omega
 have m6:(kind == 6)=false:=by rw [beq_eq_false_iff_ne];omega
 have m7:(kind == 7)=false:=by rw [beq_eq_false_iff_ne];omega
 have m8:(kind == 8)=false:=by rw [beq_eq_false_iff_ne];omega
 have m9:(kind == 9)=false:=by rw [beq_eq_false_iff_ne];omega
 have m10:(kind == 10)=false:=by rw [beq_eq_false_iff_ne];omega
 have hb0:Below w.heap.size w ((w.alloc (.cells #[.int .i64 kind,.int .i64 level,.int .i64 lo,.int .i64 hi,.int .i64 label,.string text] 40)).alloc (.cells #[.int .i64 0,.int .i64 0,.string ⟨#[]⟩,.slice none 0 0] 37)):=(below_box w _).alloc (by simp) _
 have HN2:=hide (told_new w (.cells #[.int .i64 kind,.int .i64 level,.int .i64 lo,.int .i64 hi,.int .i64 label,.string text] 40) (.cells #[.int .i64 0,.int .i64 0,.string ⟨#[]⟩,.slice none 0 0] 37))
 go_enter Try.func9,Try.ntmps9
 go_wp2
 exact bodyPost_ret (results_cell_row Try.results9 _ _ (w.heap.size+1) 37 #[.int .i64 0,.int .i64 0,.string ⟨#[]⟩,.slice none 0 0] (0,0) _ (by simp) HN2.out Try.underlying37 rfl (by rw [Try.sizeTold];rfl)) rfl ⟨rfl,hb0⟩
end Go.Proofs.Ytgigkiocdiffjab
