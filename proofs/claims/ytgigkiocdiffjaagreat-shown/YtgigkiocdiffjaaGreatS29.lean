import Derived.Test.YtgigkiocdiffjaaGreatS24
import Derived.Test.YtgigkiocdiffjaaGreatS17
set_option maxRecDepth 100000
set_option maxHeartbeats 16000000
namespace Go.Proofs.YtgigkiocdiffjaaGreat
open Go.RowKit Veil
theorem Tryz.sizeTold:(Tryz.prog.info? 43).map (·.size)=some 4:=by kernel_rfl
theorem told_new (w:World) (o o':Obj):((w.alloc o).alloc o').heap[w.heap.size+1]?=some o':=by
 have h:=Go.heap_alloc_new (w.alloc o) o'
 rw [show (w.alloc o).heap.size=w.heap.size+1 by simp] at h
 exact h
theorem only_set4 {w:World} {g:Nat} {a b c d:Value}:Only (fun k=>k=g) w ((((w.setCell ⟨g,0,none⟩ a).setCell ⟨g,1,none⟩ b).setCell ⟨g,2,none⟩ c).setCell ⟨g,3,none⟩ d):=
 ((((Only.refl (fun k=>k=g) w).setCell (a:=⟨g,0,none⟩) rfl).setCell (a:=⟨g,1,none⟩) rfl).setCell (a:=⟨g,2,none⟩) rfl).setCell (a:=⟨g,3,none⟩) rfl
theorem told_set {w:World} {g:Nat} {t:TypeId} {x0 x1 x2 x3 a b c d:Value} (h:w.heap[g]?=some (.cells #[x0,x1,x2,x3] t (0,0))):((((w.setCell ⟨g,0,none⟩ a).setCell ⟨g,1,none⟩ b).setCell ⟨g,2,none⟩ c).setCell ⟨g,3,none⟩ d).heap[g]?=some (.cells #[a,b,c,d] t (0,0)):=by
 rw [heap_setCell_same _ _ _ _ _ _ (heap_setCell_same _ _ _ _ _ _ (heap_setCell_same _ _ _ _ _ _ (heap_setCell_same _ _ _ _ _ _ h)))]
 rfl
theorem does_insert (g:Nat) (o:KS) (C:World→Int→Prop) (w:World) (hk:o.kind=1)
  (hC:∀ w',Below w.heap.size w w'→w.heap.size+1<w'.heap.size→Calls Tryz.prog 24 #[.pointer (some ⟨g,0,none⟩),.int .i64 o.level,.int .i64 o.lo,.string o.text] w' fun e w''=>∃ code,e=.returned (.int .i64 code)∧C w'' code∧∀ j,w.heap.size≤j→j<w'.heap.size→w''.heap[j]?=w'.heap[j]?) :
  Calls Tryz.prog 15 #[.pointer (some ⟨g,0,none⟩),.agg o.cells] w fun e w'=>∃ code w2,e=.returned (.agg (toldC code 0 ⟨#[]⟩ (.slice none 0 0)))∧C w2 code∧Only (fun b=>b=w.heap.size+1) w2 w':=by
 have HC:=hide hC
 clear hC
 obtain⟨kind,level,lo,hi,label,text⟩:=o
 simp only at hk
 subst hk
 unfold KS.cells toldC at *
 simp only at *
 have hb0:Below w.heap.size w ((w.alloc (.cells #[.int .i64 1,.int .i64 level,.int .i64 lo,.int .i64 hi,.int .i64 label,.string text] 46)).alloc (.cells #[.int .i64 0,.int .i64 0,.string ⟨#[]⟩,.slice none 0 0] 43)):=(below_box w _).alloc (by simp) _
 have HN2:=hide (told_new w (.cells #[.int .i64 1,.int .i64 level,.int .i64 lo,.int .i64 hi,.int .i64 label,.string text] 46) (.cells #[.int .i64 0,.int .i64 0,.string ⟨#[]⟩,.slice none 0 0] 43))
 go_enter Tryz.func15,Tryz.ntmps15
 go_wp2_with fail
 refine (HC.out _ hb0 (by simp)).mono ?_
 rintro e w1 ⟨code,rfl,hc,hkeep⟩
 have HC1:=hide hc
 have hr:=(hkeep (w.heap.size+1) (by omega) (by simp)).trans HN2.out
 have t0:w1.cell? ⟨w.heap.size+1,0,none⟩=some (.int .i64 0):=(cell_of_row _ _ _ _ _ _ hr).trans rfl
 have t1:w1.cell? ⟨w.heap.size+1,1,none⟩=some (.int .i64 0):=(cell_of_row _ _ _ _ _ _ hr).trans rfl
 have t2:w1.cell? ⟨w.heap.size+1,2,none⟩=some (.string ⟨#[]⟩):=(cell_of_row _ _ _ _ _ _ hr).trans rfl
 have t3:w1.cell? ⟨w.heap.size+1,3,none⟩=some (.slice none 0 0):=(cell_of_row _ _ _ _ _ _ hr).trans rfl
 have f0:=frozen_of_row _ _ 0 _ _ hr
 have f1:=frozen_of_row _ _ 1 _ _ hr
 have f2:=frozen_of_row _ _ 2 _ _ hr
 have f3:=frozen_of_row _ _ 3 _ _ hr
 have HR:=hide hr
 clear hc hkeep hr
 have HRES:=hide (told_set (a:=(.int .i64 code)) (b:=(.int .i64 0)) (c:=(.string ⟨#[]⟩)) (d:=(.slice none 0 0)) HR.out)
 go_wp2
 exact bodyPost_ret (results_cell_row Tryz.results15 _ _ (w.heap.size+1) 43 #[(.int .i64 code),(.int .i64 0),(.string ⟨#[]⟩),(.slice none 0 0)] (0,0) _ (by simp) HRES.out Tryz.underlying43 rfl (by rw [Tryz.sizeTold];rfl)) rfl ⟨code,w1,rfl,HC1.out,only_set4⟩
theorem does_delete (g:Nat) (o:KS) (C:World→Int→Prop) (w:World) (hk:o.kind=2)
  (hC:∀ w',Below w.heap.size w w'→w.heap.size+1<w'.heap.size→Calls Tryz.prog 25 #[.pointer (some ⟨g,0,none⟩),.int .i64 o.level,.int .i64 o.lo,.int .i64 o.hi] w' fun e w''=>∃ code,e=.returned (.int .i64 code)∧C w'' code∧∀ j,w.heap.size≤j→j<w'.heap.size→w''.heap[j]?=w'.heap[j]?) :
  Calls Tryz.prog 15 #[.pointer (some ⟨g,0,none⟩),.agg o.cells] w fun e w'=>∃ code w2,e=.returned (.agg (toldC code 0 ⟨#[]⟩ (.slice none 0 0)))∧C w2 code∧Only (fun b=>b=w.heap.size+1) w2 w':=by
 have HC:=hide hC
 clear hC
 obtain⟨kind,level,lo,hi,label,text⟩:=o
 simp only at hk
 subst hk
 unfold KS.cells toldC at *
 simp only at *
 have hb0:Below w.heap.size w ((w.alloc (.cells #[.int .i64 2,.int .i64 level,.int .i64 lo,.int .i64 hi,.int .i64 label,.string text] 46)).alloc (.cells #[.int .i64 0,.int .i64 0,.string ⟨#[]⟩,.slice none 0 0] 43)):=(below_box w _).alloc (by simp) _
 have HN2:=hide (told_new w (.cells #[.int .i64 2,.int .i64 level,.int .i64 lo,.int .i64 hi,.int .i64 label,.string text] 46) (.cells #[.int .i64 0,.int .i64 0,.string ⟨#[]⟩,.slice none 0 0] 43))
 go_enter Tryz.func15,Tryz.ntmps15
 go_wp2_with fail
 refine (HC.out _ hb0 (by simp)).mono ?_
 rintro e w1 ⟨code,rfl,hc,hkeep⟩
 have HC1:=hide hc
 have hr:=(hkeep (w.heap.size+1) (by omega) (by simp)).trans HN2.out
 have t0:w1.cell? ⟨w.heap.size+1,0,none⟩=some (.int .i64 0):=(cell_of_row _ _ _ _ _ _ hr).trans rfl
 have t1:w1.cell? ⟨w.heap.size+1,1,none⟩=some (.int .i64 0):=(cell_of_row _ _ _ _ _ _ hr).trans rfl
 have t2:w1.cell? ⟨w.heap.size+1,2,none⟩=some (.string ⟨#[]⟩):=(cell_of_row _ _ _ _ _ _ hr).trans rfl
 have t3:w1.cell? ⟨w.heap.size+1,3,none⟩=some (.slice none 0 0):=(cell_of_row _ _ _ _ _ _ hr).trans rfl
 have f0:=frozen_of_row _ _ 0 _ _ hr
 have f1:=frozen_of_row _ _ 1 _ _ hr
 have f2:=frozen_of_row _ _ 2 _ _ hr
 have f3:=frozen_of_row _ _ 3 _ _ hr
 have HR:=hide hr
 clear hc hkeep hr
 have HRES:=hide (told_set (a:=(.int .i64 code)) (b:=(.int .i64 0)) (c:=(.string ⟨#[]⟩)) (d:=(.slice none 0 0)) HR.out)
 go_wp2
 exact bodyPost_ret (results_cell_row Tryz.results15 _ _ (w.heap.size+1) 43 #[(.int .i64 code),(.int .i64 0),(.string ⟨#[]⟩),(.slice none 0 0)] (0,0) _ (by simp) HRES.out Tryz.underlying43 rfl (by rw [Tryz.sizeTold];rfl)) rfl ⟨code,w1,rfl,HC1.out,only_set4⟩
theorem does_raise (g:Nat) (o:KS) (C:World→Int→Prop) (w:World) (hk:o.kind=3)
  (hC:∀ w',Below w.heap.size w w'→w.heap.size+1<w'.heap.size→Calls Tryz.prog 26 #[.pointer (some ⟨g,0,none⟩),.int .i64 o.level,.int .i64 o.lo,.int .i64 o.hi,.int .i64 o.label] w' fun e w''=>∃ code,e=.returned (.int .i64 code)∧C w'' code∧∀ j,w.heap.size≤j→j<w'.heap.size→w''.heap[j]?=w'.heap[j]?) :
  Calls Tryz.prog 15 #[.pointer (some ⟨g,0,none⟩),.agg o.cells] w fun e w'=>∃ code w2,e=.returned (.agg (toldC code 0 ⟨#[]⟩ (.slice none 0 0)))∧C w2 code∧Only (fun b=>b=w.heap.size+1) w2 w':=by
 have HC:=hide hC
 clear hC
 obtain⟨kind,level,lo,hi,label,text⟩:=o
 simp only at hk
 subst hk
 unfold KS.cells toldC at *
 simp only at *
 have hb0:Below w.heap.size w ((w.alloc (.cells #[.int .i64 3,.int .i64 level,.int .i64 lo,.int .i64 hi,.int .i64 label,.string text] 46)).alloc (.cells #[.int .i64 0,.int .i64 0,.string ⟨#[]⟩,.slice none 0 0] 43)):=(below_box w _).alloc (by simp) _
 have HN2:=hide (told_new w (.cells #[.int .i64 3,.int .i64 level,.int .i64 lo,.int .i64 hi,.int .i64 label,.string text] 46) (.cells #[.int .i64 0,.int .i64 0,.string ⟨#[]⟩,.slice none 0 0] 43))
 go_enter Tryz.func15,Tryz.ntmps15
 go_wp2_with fail
 refine (HC.out _ hb0 (by simp)).mono ?_
 rintro e w1 ⟨code,rfl,hc,hkeep⟩
 have HC1:=hide hc
 have hr:=(hkeep (w.heap.size+1) (by omega) (by simp)).trans HN2.out
 have t0:w1.cell? ⟨w.heap.size+1,0,none⟩=some (.int .i64 0):=(cell_of_row _ _ _ _ _ _ hr).trans rfl
 have t1:w1.cell? ⟨w.heap.size+1,1,none⟩=some (.int .i64 0):=(cell_of_row _ _ _ _ _ _ hr).trans rfl
 have t2:w1.cell? ⟨w.heap.size+1,2,none⟩=some (.string ⟨#[]⟩):=(cell_of_row _ _ _ _ _ _ hr).trans rfl
 have t3:w1.cell? ⟨w.heap.size+1,3,none⟩=some (.slice none 0 0):=(cell_of_row _ _ _ _ _ _ hr).trans rfl
 have f0:=frozen_of_row _ _ 0 _ _ hr
 have f1:=frozen_of_row _ _ 1 _ _ hr
 have f2:=frozen_of_row _ _ 2 _ _ hr
 have f3:=frozen_of_row _ _ 3 _ _ hr
 have HR:=hide hr
 clear hc hkeep hr
 have HRES:=hide (told_set (a:=(.int .i64 code)) (b:=(.int .i64 0)) (c:=(.string ⟨#[]⟩)) (d:=(.slice none 0 0)) HR.out)
 go_wp2
 exact bodyPost_ret (results_cell_row Tryz.results15 _ _ (w.heap.size+1) 43 #[(.int .i64 code),(.int .i64 0),(.string ⟨#[]⟩),(.slice none 0 0)] (0,0) _ (by simp) HRES.out Tryz.underlying43 rfl (by rw [Tryz.sizeTold];rfl)) rfl ⟨code,w1,rfl,HC1.out,only_set4⟩
theorem does_release (g:Nat) (o:KS) (C:World→Int→Prop) (w:World) (hk:o.kind=4)
  (hC:∀ w',Below w.heap.size w w'→w.heap.size+1<w'.heap.size→Calls Tryz.prog 27 #[.pointer (some ⟨g,0,none⟩),.int .i64 o.level,.int .i64 o.lo,.int .i64 o.hi,.int .i64 o.label] w' fun e w''=>∃ code,e=.returned (.int .i64 code)∧C w'' code∧∀ j,w.heap.size≤j→j<w'.heap.size→w''.heap[j]?=w'.heap[j]?) :
  Calls Tryz.prog 15 #[.pointer (some ⟨g,0,none⟩),.agg o.cells] w fun e w'=>∃ code w2,e=.returned (.agg (toldC code 0 ⟨#[]⟩ (.slice none 0 0)))∧C w2 code∧Only (fun b=>b=w.heap.size+1) w2 w':=by
 have HC:=hide hC
 clear hC
 obtain⟨kind,level,lo,hi,label,text⟩:=o
 simp only at hk
 subst hk
 unfold KS.cells toldC at *
 simp only at *
 have hb0:Below w.heap.size w ((w.alloc (.cells #[.int .i64 4,.int .i64 level,.int .i64 lo,.int .i64 hi,.int .i64 label,.string text] 46)).alloc (.cells #[.int .i64 0,.int .i64 0,.string ⟨#[]⟩,.slice none 0 0] 43)):=(below_box w _).alloc (by simp) _
 have HN2:=hide (told_new w (.cells #[.int .i64 4,.int .i64 level,.int .i64 lo,.int .i64 hi,.int .i64 label,.string text] 46) (.cells #[.int .i64 0,.int .i64 0,.string ⟨#[]⟩,.slice none 0 0] 43))
 go_enter Tryz.func15,Tryz.ntmps15
 go_wp2_with fail
 refine (HC.out _ hb0 (by simp)).mono ?_
 rintro e w1 ⟨code,rfl,hc,hkeep⟩
 have HC1:=hide hc
 have hr:=(hkeep (w.heap.size+1) (by omega) (by simp)).trans HN2.out
 have t0:w1.cell? ⟨w.heap.size+1,0,none⟩=some (.int .i64 0):=(cell_of_row _ _ _ _ _ _ hr).trans rfl
 have t1:w1.cell? ⟨w.heap.size+1,1,none⟩=some (.int .i64 0):=(cell_of_row _ _ _ _ _ _ hr).trans rfl
 have t2:w1.cell? ⟨w.heap.size+1,2,none⟩=some (.string ⟨#[]⟩):=(cell_of_row _ _ _ _ _ _ hr).trans rfl
 have t3:w1.cell? ⟨w.heap.size+1,3,none⟩=some (.slice none 0 0):=(cell_of_row _ _ _ _ _ _ hr).trans rfl
 have f0:=frozen_of_row _ _ 0 _ _ hr
 have f1:=frozen_of_row _ _ 1 _ _ hr
 have f2:=frozen_of_row _ _ 2 _ _ hr
 have f3:=frozen_of_row _ _ 3 _ _ hr
 have HR:=hide hr
 clear hc hkeep hr
 have HRES:=hide (told_set (a:=(.int .i64 code)) (b:=(.int .i64 0)) (c:=(.string ⟨#[]⟩)) (d:=(.slice none 0 0)) HR.out)
 go_wp2
 exact bodyPost_ret (results_cell_row Tryz.results15 _ _ (w.heap.size+1) 43 #[(.int .i64 code),(.int .i64 0),(.string ⟨#[]⟩),(.slice none 0 0)] (0,0) _ (by simp) HRES.out Tryz.underlying43 rfl (by rw [Tryz.sizeTold];rfl)) rfl ⟨code,w1,rfl,HC1.out,only_set4⟩
theorem does_view (g:Nat) (o:KS) (C:World→ByteArray→Int→Prop) (w:World) (hk:o.kind=5)
  (hC:∀ w',Below w.heap.size w w'→w.heap.size+1<w'.heap.size→Calls Tryz.prog 23 #[.pointer (some ⟨g,0,none⟩),.int .i64 o.level] w' fun e w''=>∃ (r:ByteArray) (code:Int),e=.returned (.tuple #[.string r,.int .i64 code])∧C w'' r code∧∀ j,w.heap.size≤j→j<w'.heap.size→w''.heap[j]?=w'.heap[j]?) :
  Calls Tryz.prog 15 #[.pointer (some ⟨g,0,none⟩),.agg o.cells] w fun e w'=>∃ (r:ByteArray) (code:Int) (w2:World),e=.returned (.agg (toldC code 0 r (.slice none 0 0)))∧C w2 r code∧Only (fun b=>b=w.heap.size+1) w2 w':=by
 have HC:=hide hC
 clear hC
 obtain⟨kind,level,lo,hi,label,text⟩:=o
 simp only at hk
 subst hk
 unfold KS.cells toldC at *
 simp only at *
 have hb0:Below w.heap.size w ((w.alloc (.cells #[.int .i64 5,.int .i64 level,.int .i64 lo,.int .i64 hi,.int .i64 label,.string text] 46)).alloc (.cells #[.int .i64 0,.int .i64 0,.string ⟨#[]⟩,.slice none 0 0] 43)):=(below_box w _).alloc (by simp) _
 have HN2:=hide (told_new w (.cells #[.int .i64 5,.int .i64 level,.int .i64 lo,.int .i64 hi,.int .i64 label,.string text] 46) (.cells #[.int .i64 0,.int .i64 0,.string ⟨#[]⟩,.slice none 0 0] 43))
 go_enter Tryz.func15,Tryz.ntmps15
 go_wp2_with fail
 refine (HC.out _ hb0 (by simp)).mono ?_
 rintro e w1 ⟨r,code,rfl,hc,hkeep⟩
 have HC1:=hide hc
 have hr:=(hkeep (w.heap.size+1) (by omega) (by simp)).trans HN2.out
 have t0:w1.cell? ⟨w.heap.size+1,0,none⟩=some (.int .i64 0):=(cell_of_row _ _ _ _ _ _ hr).trans rfl
 have t1:w1.cell? ⟨w.heap.size+1,1,none⟩=some (.int .i64 0):=(cell_of_row _ _ _ _ _ _ hr).trans rfl
 have t2:w1.cell? ⟨w.heap.size+1,2,none⟩=some (.string ⟨#[]⟩):=(cell_of_row _ _ _ _ _ _ hr).trans rfl
 have t3:w1.cell? ⟨w.heap.size+1,3,none⟩=some (.slice none 0 0):=(cell_of_row _ _ _ _ _ _ hr).trans rfl
 have f0:=frozen_of_row _ _ 0 _ _ hr
 have f1:=frozen_of_row _ _ 1 _ _ hr
 have f2:=frozen_of_row _ _ 2 _ _ hr
 have f3:=frozen_of_row _ _ 3 _ _ hr
 have HR:=hide hr
 clear hc hkeep hr
 have HRES:=hide (told_set (a:=(.int .i64 code)) (b:=(.int .i64 0)) (c:=(.string r)) (d:=(.slice none 0 0)) HR.out)
 go_wp2
 exact bodyPost_ret (results_cell_row Tryz.results15 _ _ (w.heap.size+1) 43 #[(.int .i64 code),(.int .i64 0),(.string r),(.slice none 0 0)] (0,0) _ (by simp) HRES.out Tryz.underlying43 rfl (by rw [Tryz.sizeTold];rfl)) rfl ⟨r,code,w1,rfl,HC1.out,only_set4⟩
theorem does_left (g:Nat) (o:KS) (C:World→Int→Int→Prop) (w:World) (hk:o.kind=7)
  (hC:∀ w',Below w.heap.size w w'→w.heap.size+1<w'.heap.size→Calls Tryz.prog 30 #[.pointer (some ⟨g,0,none⟩),.int .i64 o.level] w' fun e w''=>∃ (r code:Int),e=.returned (.tuple #[.int .i64 r,.int .i64 code])∧C w'' r code∧∀ j,w.heap.size≤j→j<w'.heap.size→w''.heap[j]?=w'.heap[j]?) :
  Calls Tryz.prog 15 #[.pointer (some ⟨g,0,none⟩),.agg o.cells] w fun e w'=>∃ (r code:Int) (w2:World),e=.returned (.agg (toldC code r ⟨#[]⟩ (.slice none 0 0)))∧C w2 r code∧Only (fun b=>b=w.heap.size+1) w2 w':=by
 have HC:=hide hC
 clear hC
 obtain⟨kind,level,lo,hi,label,text⟩:=o
 simp only at hk
 subst hk
 unfold KS.cells toldC at *
 simp only at *
 have hb0:Below w.heap.size w ((w.alloc (.cells #[.int .i64 7,.int .i64 level,.int .i64 lo,.int .i64 hi,.int .i64 label,.string text] 46)).alloc (.cells #[.int .i64 0,.int .i64 0,.string ⟨#[]⟩,.slice none 0 0] 43)):=(below_box w _).alloc (by simp) _
 have HN2:=hide (told_new w (.cells #[.int .i64 7,.int .i64 level,.int .i64 lo,.int .i64 hi,.int .i64 label,.string text] 46) (.cells #[.int .i64 0,.int .i64 0,.string ⟨#[]⟩,.slice none 0 0] 43))
 go_enter Tryz.func15,Tryz.ntmps15
 go_wp2_with fail
 refine (HC.out _ hb0 (by simp)).mono ?_
 rintro e w1 ⟨r,code,rfl,hc,hkeep⟩
 have HC1:=hide hc
 have hr:=(hkeep (w.heap.size+1) (by omega) (by simp)).trans HN2.out
 have t0:w1.cell? ⟨w.heap.size+1,0,none⟩=some (.int .i64 0):=(cell_of_row _ _ _ _ _ _ hr).trans rfl
 have t1:w1.cell? ⟨w.heap.size+1,1,none⟩=some (.int .i64 0):=(cell_of_row _ _ _ _ _ _ hr).trans rfl
 have t2:w1.cell? ⟨w.heap.size+1,2,none⟩=some (.string ⟨#[]⟩):=(cell_of_row _ _ _ _ _ _ hr).trans rfl
 have t3:w1.cell? ⟨w.heap.size+1,3,none⟩=some (.slice none 0 0):=(cell_of_row _ _ _ _ _ _ hr).trans rfl
 have f0:=frozen_of_row _ _ 0 _ _ hr
 have f1:=frozen_of_row _ _ 1 _ _ hr
 have f2:=frozen_of_row _ _ 2 _ _ hr
 have f3:=frozen_of_row _ _ 3 _ _ hr
 have HR:=hide hr
 clear hc hkeep hr
 have HRES:=hide (told_set (a:=(.int .i64 code)) (b:=(.int .i64 r)) (c:=(.string ⟨#[]⟩)) (d:=(.slice none 0 0)) HR.out)
 go_wp2
 exact bodyPost_ret (results_cell_row Tryz.results15 _ _ (w.heap.size+1) 43 #[(.int .i64 code),(.int .i64 r),(.string ⟨#[]⟩),(.slice none 0 0)] (0,0) _ (by simp) HRES.out Tryz.underlying43 rfl (by rw [Tryz.sizeTold];rfl)) rfl ⟨r,code,w1,rfl,HC1.out,only_set4⟩
theorem does_version (g:Nat) (o:KS) (C:World→Int→Int→Prop) (w:World) (hk:o.kind=8)
  (hC:∀ w',Below w.heap.size w w'→w.heap.size+1<w'.heap.size→Calls Tryz.prog 31 #[.pointer (some ⟨g,0,none⟩),.int .i64 o.level] w' fun e w''=>∃ (r code:Int),e=.returned (.tuple #[.int .i64 r,.int .i64 code])∧C w'' r code∧∀ j,w.heap.size≤j→j<w'.heap.size→w''.heap[j]?=w'.heap[j]?) :
  Calls Tryz.prog 15 #[.pointer (some ⟨g,0,none⟩),.agg o.cells] w fun e w'=>∃ (r code:Int) (w2:World),e=.returned (.agg (toldC code r ⟨#[]⟩ (.slice none 0 0)))∧C w2 r code∧Only (fun b=>b=w.heap.size+1) w2 w':=by
 have HC:=hide hC
 clear hC
 obtain⟨kind,level,lo,hi,label,text⟩:=o
 simp only at hk
 subst hk
 unfold KS.cells toldC at *
 simp only at *
 have hb0:Below w.heap.size w ((w.alloc (.cells #[.int .i64 8,.int .i64 level,.int .i64 lo,.int .i64 hi,.int .i64 label,.string text] 46)).alloc (.cells #[.int .i64 0,.int .i64 0,.string ⟨#[]⟩,.slice none 0 0] 43)):=(below_box w _).alloc (by simp) _
 have HN2:=hide (told_new w (.cells #[.int .i64 8,.int .i64 level,.int .i64 lo,.int .i64 hi,.int .i64 label,.string text] 46) (.cells #[.int .i64 0,.int .i64 0,.string ⟨#[]⟩,.slice none 0 0] 43))
 go_enter Tryz.func15,Tryz.ntmps15
 go_wp2_with fail
 refine (HC.out _ hb0 (by simp)).mono ?_
 rintro e w1 ⟨r,code,rfl,hc,hkeep⟩
 have HC1:=hide hc
 have hr:=(hkeep (w.heap.size+1) (by omega) (by simp)).trans HN2.out
 have t0:w1.cell? ⟨w.heap.size+1,0,none⟩=some (.int .i64 0):=(cell_of_row _ _ _ _ _ _ hr).trans rfl
 have t1:w1.cell? ⟨w.heap.size+1,1,none⟩=some (.int .i64 0):=(cell_of_row _ _ _ _ _ _ hr).trans rfl
 have t2:w1.cell? ⟨w.heap.size+1,2,none⟩=some (.string ⟨#[]⟩):=(cell_of_row _ _ _ _ _ _ hr).trans rfl
 have t3:w1.cell? ⟨w.heap.size+1,3,none⟩=some (.slice none 0 0):=(cell_of_row _ _ _ _ _ _ hr).trans rfl
 have f0:=frozen_of_row _ _ 0 _ _ hr
 have f1:=frozen_of_row _ _ 1 _ _ hr
 have f2:=frozen_of_row _ _ 2 _ _ hr
 have f3:=frozen_of_row _ _ 3 _ _ hr
 have HR:=hide hr
 clear hc hkeep hr
 have HRES:=hide (told_set (a:=(.int .i64 code)) (b:=(.int .i64 r)) (c:=(.string ⟨#[]⟩)) (d:=(.slice none 0 0)) HR.out)
 go_wp2
 exact bodyPost_ret (results_cell_row Tryz.results15 _ _ (w.heap.size+1) 43 #[(.int .i64 code),(.int .i64 r),(.string ⟨#[]⟩),(.slice none 0 0)] (0,0) _ (by simp) HRES.out Tryz.underlying43 rfl (by rw [Tryz.sizeTold];rfl)) rfl ⟨r,code,w1,rfl,HC1.out,only_set4⟩
end Go.Proofs.YtgigkiocdiffjaaGreat
namespace Go.Proofs.YtgigkiocdiffjaaGreat
open Go.RowKit Veil
theorem Tryz.infoInt2:(Tryz.prog.info? 3).map (fun i=>(i.zero,i.size,i.bytes))=some (some (.int .i64 0),1,8):=by kernel_rfl
section
variable {α:Type} {e:TypeId} {sz:Nat} {f:α→List Value} {w:World} {B:Nat} {v:Value} {l:List α}
theorem step_pushN {P:Program} {ops:Array Oper} {o:Oper} {act:Act} {K:Act→World→Prop} {Q:Exit→Act→World→Prop} {E:Prop} (hgd:o.guard=none) (s x:Operand) (t:TypeId)
  (ho:o.op=.call { callee:=.builtin .append,args:=#[s,x],argTypes:=#[t,t] }) (z:Value) (bytes:Nat) (ht:P.underlying t=some (.slice e)) (hinfo:(P.info? e).map (fun i=>(i.zero,i.size,i.bytes))=some (some z,sz,bytes)) (hzs:z.cells.size=sz) (hsz:0<sz)
  (hs:act.eval s=v) (hown:OwnL e sz f w B v l) (h0 c m:Nat) (nw:List α) (hm:nw.length=m) (hm0:0<m) (hx:act.eval x=.slice (some ⟨h0,0,none⟩) m c) (ty:TypeId) (fr:Nat × Nat) (hb0:w.heap[h0]?=some (.cells (nw.flatMap f).toArray ty fr)) (hfl:(nw.flatMap f).length=m*sz) (h1:∀ u ∈ nw.flatMap f,u.oneCell'=true)
  (hby:(l.length+m)*bytes≤140737488355328) (hb1:0<bytes) (hbase:B≤w.heap.size) (H:Nat) (hH:w.heap.size=H)
  (h:∀ w' v',OwnL e sz f w' B v' (l++nw)→w.grownBy w' v.ownBlock→K (act.put o.dst v') w') :
  if Region.wanted o (yielded ops act.tmps)=true then Oper.wp P o act w K Q else E:=by
 obtain⟨i,hi,hzz⟩:=Option.map_eq_some_iff.1 hinfo
 simp only [Prod.mk.injEq] at hzz
 obtain⟨hz,hsize,hbb⟩:=hzz
 have hle:l.length+m≤(l.length+m)*bytes:=Nat.le_mul_of_pos_right _ hb1
 refine step_append_lies w hgd s x t ho B e i z sz bytes ht hi hz hsize hbb hzs hsz v l.length (l.flatMap f) hs hown ⟨h0,0,none⟩ m c (nw.flatMap f) hx hfl (fun j u hu=>World.news_of_block hb0 j u (by simpa using hu)) h1 (by omega) (by simp only [maxLen];omega) hby hbase H hH ?_
 intro g cap w' h2 h3 h4 h5
 refine h w' _ ?_ h3
 unfold OwnL
 rw [List.length_append,List.flatMap_append,hm]
 exact h2
end
theorem kflat_take {α:Type} (f:α→List Int) (l:List α) (k:Nat) (h:k<l.length):(l.take (k+1)).flatMap f=(l.take k).flatMap f++f l[k]:=by
 rw [List.take_add_one,List.getElem?_eq_getElem h,List.flatMap_append];simp
theorem kflat_len {α:Type} (f:α→List Int) (n:Nat) (hf:∀ a,(f a).length=n) (l:List α):(l.flatMap f).length=l.length*n:=by
 induction l with
 | nil=>simp
 | cons a m ih=>rw [List.flatMap_cons,List.length_append,ih,hf,List.length_cons,Nat.add_mul];omega
def nums3 (x:Int × Int × Int):List Int:=[x.1,x.2.1,x.2.2]
theorem kspans_any (l:List (Int × Int × Int)) (v:Value) (w:World) (hv:SeqV 3 s3V w v l) (hl:l.length≤100000) :
  Calls Tryz.prog 29 #[v] w fun e w'=>∃ vl,e=.returned vl∧OwnL 3 1 inV w' w.heap.size vl (l.flatMap nums3)∧Below w.heap.size w w':=by
 obtain⟨ao,cap,b,rfl,hao,hc⟩:=hv
 have HA:=hide hao
 have HC:=hide hc
 clear hao hc
 go_enter Tryz.func29,Tryz.ntmps29
 go_wp2
 go_loopw [3,4] (fun vl i wr=>∃ k:Nat,k≤l.length∧i=.int .i64 k∧OwnL 3 1 inV wr w.heap.size vl ((l.take k).flatMap nums3)∧Below w.heap.size w wr) (fun _ i _=>l.length-(intOf i).toNat)
 case atStart=>exact⟨0,Nat.zero_le _,rfl,OwnL.nil _ _ _ _ _,Below.refl _ _⟩
 case round=>
  obtain⟨wo,rfl⟩:∃ x,x=wr:=⟨_,rfl⟩
  obtain⟨k,hk,rfl,hvl,hbel⟩:=hrel
  have HVL:=hide hvl
  obtain⟨vao,vcap,hvv⟩:=hvl.shape
  clear hvl
  generalize hLL:((l.take k).flatMap nums3).length=L at hvv
  subst hvv
  by_cases hlt:k<l.length
  ·have hg:l[k]?=some l[k]:=List.getElem?_eq_getElem hlt
   obtain⟨rfl,hbl⟩:ao=some ⟨b,0,none⟩∧b<w.heap.size:=HA.out.resolve_left (fun e=>by rw [e] at hlt;simp at hlt)
   have c0:=HC.out k _ hg 0 (by omega)
   have c1:=HC.out k _ hg 1 (by omega)
   have c2:=HC.out k _ hg 2 (by omega)
   have HTK:=hide (kflat_take nums3 l k hlt)
   have HLN:=hide (show ((l.take k).flatMap nums3).length≤300000 from by rw [kflat_len nums3 3 (fun _=>rfl),List.length_take];omega)
   generalize l[k]=x at *
   obtain⟨x0,x1,x2⟩:=x
   have c0':w.cell? ⟨b,k*3,none⟩=some (.int .i64 x0):=c0
   have c1':w.cell? ⟨b,k*3+1,none⟩=some (.int .i64 x1):=c1
   have c2':w.cell? ⟨b,k*3+2,none⟩=some (.int .i64 x2):=c2
   have d0:=(hbel.cell (p:=⟨b,k*3,none⟩) hbl).trans c0'
   have d1:=(hbel.cell (p:=⟨b,k*3+1,none⟩) hbl).trans c1'
   have d2:=(hbel.cell (p:=⟨b,k*3+2,none⟩) hbl).trans c2'
   have hki:(k:Int)<(l.length:Int):=by omega
   have hbA:Below wo.heap.size wo (wo.alloc (.cells #[.int .i64 x0,.int .i64 x1,.int .i64 x2] 3)).drew:=((Below.refl _ _).alloc (Nat.le_refl _) _).drew
   have hbelA:=hbel.trans (hbA.mono hbel.size)
   have hsA:=hbelA.size
   have HVA:=hide (HVL.out.below hbA)
   have HNA:=hide (show (wo.alloc (.cells #[.int .i64 x0,.int .i64 x1,.int .i64 x2] 3)).drew.heap[wo.heap.size]?=some (.cells (([x0,x1,x2]:List Int).flatMap inV).toArray 3 (0,0)) from Go.heap_alloc_new wo _)
   clear hg c0 c1 c2
   go_wp2_with fail
   refine wp_region_held_drew (S:=(fun w'=>w'.cell? ⟨b,k*3,none⟩=some (.int .i64 x0)∧w'.cell? ⟨b,k*3+1,none⟩=some (.int .i64 x1)∧w'.cell? ⟨b,k*3+2,none⟩=some (.int .i64 x2))) (by kernel_rfl) ?_ (fun hHeld=>?_)
   ·(try dsimp only);go_keep
   refine tV 0 11 ?_
   (try simp only [Act.put,lA,lZ,lS])
   refine tV 1 12 ?_
   (try simp only [Act.put,lA,lZ,lS])
   refine tV 2 13 ?_
   (try simp only [Act.put,lA,lZ,lS])
   refine tV 3 14 ?_
   (try simp only [Act.put,lA,lZ,lS])
   refine tV 4 15 ?_
   (try simp only [Act.put,lA,lZ,lS])
   refine tV 5 16 ?_
   (try simp only [Act.put,lA,lZ,lS])
   refine tV 6 17 ?_
   (try simp only [Act.put,lA,lZ,lS])
   refine tV 7 18 ?_
   (try simp only [Act.put,lA,lZ,lS])
   refine tV 8 19 ?_
   (try simp only [Act.put,lA,lZ,lS])
   refine tV 9 20 ?_
   (try simp only [Act.put,lA,lZ,lS])
   refine tV 10 21 ?_
   (try simp only [Act.put,lA,lZ,lS])
   refine tV 11 22 ?_
   (try simp only [Act.put,lA,lZ,lS])
   refine tV 12 23 ?_
   (try simp only [Act.put,lA,lZ,lS])
   refine tV 13 24 ?_
   (try simp only [Act.put,lA,lZ,lS])
   refine tV 14 25 ?_
   (try simp only [Act.put,lA,lZ,lS])
   refine tV 15 26 ?_
   (try simp only [Act.put,lA,lZ,lS])
   refine wpAnyH_ready (rs:=[16]) (by kernel_rfl) (by simp) ?_
   refine AllReadyH.cons rfl (fun K hK=>?_) AllReadyH.nil
   go_simp
   refine hK.out _ _ ?_ (fun hHeld=>?_)
   ·(try dsimp only);go_keep
   clear hK K
   refine wpAnyH_ready (rs:=[17]) (by kernel_rfl) (by simp) ?_
   refine AllReadyH.cons rfl (fun K hK=>?_) AllReadyH.nil
   refine step_pushN (f:=inV) (l:=(l.take k).flatMap nums3) (B:=w.heap.size) rfl (.tmp 11) (.tmp 27) 25 rfl (.int .i64 0) 8 Tryz.underlying25 Tryz.infoInt2 rfl (by decide) rfl HVA.out wo.heap.size 3 3 [x0,x1,x2] rfl (by decide) rfl 3 (0,0) HNA.out rfl (by intro u hu;simp [inV] at hu;rcases hu with rfl|rfl|rfl <;> rfl) (by have:=HLN.out;omega) (by decide) hsA (wo.heap.size+1) (by simp) ?_;intro w6 v6 hown6 hgrow6;have hb6:Below w.heap.size w w6:=hbelA.trans (below_of_grown hgrow6 (fun j hj=>(HVA.out.lt hj).1) hbelA.size);have z0:=(hb6.cell (p:=⟨b,k*3,none⟩) hbl).trans c0';have z1:=(hb6.cell (p:=⟨b,k*3+1,none⟩) hbl).trans c1';have z2:=(hb6.cell (p:=⟨b,k*3+2,none⟩) hbl).trans c2'
   refine hK.out _ _ ?_ (fun hHeld=>?_)
   ·(try dsimp only);go_keep
   clear hK K
   refine wpAnyH_ready (rs:=[18]) (by kernel_rfl) (by simp) ?_
   refine AllReadyH.cons rfl (fun K hK=>?_) AllReadyH.nil
   go_simp
   refine hK.out _ _ ?_ (fun hHeld=>?_)
   ·(try dsimp only);go_keep
   clear hK K
   refine wpAnyH_done (by kernel_rfl) ?_ _
   have HO6:=hide hown6
   clear hown6
   go_wp2
   go_roundw
   case rel=>exact⟨k+1,by omega,by go_num,by rw [HTK.out];exact HO6.out,hb6⟩
   case measure=>simp [intOf];omega
  ·obtain rfl:k=l.length:=by omega
   have hkc:decide ((l.length:Int)<(l.length:Int))=false:=by simp
   have HF:=HVL.out
   rw [List.take_length] at HF
   have HFH:=hide HF
   clear HF
   go_wp2
   go_ret
   exact⟨_,rfl,HFH.out,hbel⟩
def numsR (x:Rec):List Int:=[x.who,x.cells,x.ver]
theorem krecords_any (l:List Rec) (v:Value) (w:World) (hv:SeqV 3 recV w v l) (hl:l.length≤100000) :
  Calls Tryz.prog 33 #[v] w fun e w'=>∃ vl,e=.returned vl∧OwnL 3 1 inV w' w.heap.size vl (l.flatMap numsR)∧Below w.heap.size w w':=by
 obtain⟨ao,cap,b,rfl,hao,hc⟩:=hv
 have HA:=hide hao
 have HC:=hide hc
 clear hao hc
 go_enter Tryz.func33,Tryz.ntmps33
 go_wp2
 go_loopw [3,4] (fun vl i wr=>∃ k:Nat,k≤l.length∧i=.int .i64 k∧OwnL 3 1 inV wr w.heap.size vl ((l.take k).flatMap numsR)∧Below w.heap.size w wr) (fun _ i _=>l.length-(intOf i).toNat)
 case atStart=>exact⟨0,Nat.zero_le _,rfl,OwnL.nil _ _ _ _ _,Below.refl _ _⟩
 case round=>
  obtain⟨wo,rfl⟩:∃ x,x=wr:=⟨_,rfl⟩
  obtain⟨k,hk,rfl,hvl,hbel⟩:=hrel
  have HVL:=hide hvl
  obtain⟨vao,vcap,hvv⟩:=hvl.shape
  clear hvl
  generalize hLL:((l.take k).flatMap numsR).length=L at hvv
  subst hvv
  by_cases hlt:k<l.length
  ·have hg:l[k]?=some l[k]:=List.getElem?_eq_getElem hlt
   obtain⟨rfl,hbl⟩:ao=some ⟨b,0,none⟩∧b<w.heap.size:=HA.out.resolve_left (fun e=>by rw [e] at hlt;simp at hlt)
   have c0:=HC.out k _ hg 0 (by omega)
   have c1:=HC.out k _ hg 1 (by omega)
   have c2:=HC.out k _ hg 2 (by omega)
   have HTK:=hide (kflat_take numsR l k hlt)
   have HLN:=hide (show ((l.take k).flatMap numsR).length≤300000 from by rw [kflat_len numsR 3 (fun _=>rfl),List.length_take];omega)
   generalize l[k]=x at *
   obtain⟨x0,x1,x2⟩:=x
   have c0':w.cell? ⟨b,k*3,none⟩=some (.int .i64 x0):=c0
   have c1':w.cell? ⟨b,k*3+1,none⟩=some (.int .i64 x1):=c1
   have c2':w.cell? ⟨b,k*3+2,none⟩=some (.int .i64 x2):=c2
   have d0:=(hbel.cell (p:=⟨b,k*3,none⟩) hbl).trans c0'
   have d1:=(hbel.cell (p:=⟨b,k*3+1,none⟩) hbl).trans c1'
   have d2:=(hbel.cell (p:=⟨b,k*3+2,none⟩) hbl).trans c2'
   have hki:(k:Int)<(l.length:Int):=by omega
   have hbA:Below wo.heap.size wo (wo.alloc (.cells #[.int .i64 x0,.int .i64 x1,.int .i64 x2] 3)).drew:=((Below.refl _ _).alloc (Nat.le_refl _) _).drew
   have hbelA:=hbel.trans (hbA.mono hbel.size)
   have hsA:=hbelA.size
   have HVA:=hide (HVL.out.below hbA)
   have HNA:=hide (show (wo.alloc (.cells #[.int .i64 x0,.int .i64 x1,.int .i64 x2] 3)).drew.heap[wo.heap.size]?=some (.cells (([x0,x1,x2]:List Int).flatMap inV).toArray 3 (0,0)) from Go.heap_alloc_new wo _)
   clear hg c0 c1 c2
   go_wp2_with fail
   refine wp_region_held_drew (S:=(fun w'=>w'.cell? ⟨b,k*3,none⟩=some (.int .i64 x0)∧w'.cell? ⟨b,k*3+1,none⟩=some (.int .i64 x1)∧w'.cell? ⟨b,k*3+2,none⟩=some (.int .i64 x2))) (by kernel_rfl) ?_ (fun hHeld=>?_)
   ·(try dsimp only);go_keep
   refine tV 0 11 ?_
   (try simp only [Act.put,lA,lZ,lS])
   refine tV 1 12 ?_
   (try simp only [Act.put,lA,lZ,lS])
   refine tV 2 13 ?_
   (try simp only [Act.put,lA,lZ,lS])
   refine tV 3 14 ?_
   (try simp only [Act.put,lA,lZ,lS])
   refine tV 4 15 ?_
   (try simp only [Act.put,lA,lZ,lS])
   refine tV 5 16 ?_
   (try simp only [Act.put,lA,lZ,lS])
   refine tV 6 17 ?_
   (try simp only [Act.put,lA,lZ,lS])
   refine tV 7 18 ?_
   (try simp only [Act.put,lA,lZ,lS])
   refine tV 8 19 ?_
   (try simp only [Act.put,lA,lZ,lS])
   refine tV 9 20 ?_
   (try simp only [Act.put,lA,lZ,lS])
   refine tV 10 21 ?_
   (try simp only [Act.put,lA,lZ,lS])
   refine tV 11 22 ?_
   (try simp only [Act.put,lA,lZ,lS])
   refine tV 12 23 ?_
   (try simp only [Act.put,lA,lZ,lS])
   refine tV 13 24 ?_
   (try simp only [Act.put,lA,lZ,lS])
   refine tV 14 25 ?_
   (try simp only [Act.put,lA,lZ,lS])
   refine tV 15 26 ?_
   (try simp only [Act.put,lA,lZ,lS])
   refine wpAnyH_ready (rs:=[16]) (by kernel_rfl) (by simp) ?_
   refine AllReadyH.cons rfl (fun K hK=>?_) AllReadyH.nil
   go_simp
   refine hK.out _ _ ?_ (fun hHeld=>?_)
   ·(try dsimp only);go_keep
   clear hK K
   refine wpAnyH_ready (rs:=[17]) (by kernel_rfl) (by simp) ?_
   refine AllReadyH.cons rfl (fun K hK=>?_) AllReadyH.nil
   refine step_pushN (f:=inV) (l:=(l.take k).flatMap numsR) (B:=w.heap.size) rfl (.tmp 11) (.tmp 27) 25 rfl (.int .i64 0) 8 Tryz.underlying25 Tryz.infoInt2 rfl (by decide) rfl HVA.out wo.heap.size 3 3 [x0,x1,x2] rfl (by decide) rfl 3 (0,0) HNA.out rfl (by intro u hu;simp [inV] at hu;rcases hu with rfl|rfl|rfl <;> rfl) (by have:=HLN.out;omega) (by decide) hsA (wo.heap.size+1) (by simp) ?_;intro w6 v6 hown6 hgrow6;have hb6:Below w.heap.size w w6:=hbelA.trans (below_of_grown hgrow6 (fun j hj=>(HVA.out.lt hj).1) hbelA.size);have z0:=(hb6.cell (p:=⟨b,k*3,none⟩) hbl).trans c0';have z1:=(hb6.cell (p:=⟨b,k*3+1,none⟩) hbl).trans c1';have z2:=(hb6.cell (p:=⟨b,k*3+2,none⟩) hbl).trans c2'
   refine hK.out _ _ ?_ (fun hHeld=>?_)
   ·(try dsimp only);go_keep
   clear hK K
   refine wpAnyH_ready (rs:=[18]) (by kernel_rfl) (by simp) ?_
   refine AllReadyH.cons rfl (fun K hK=>?_) AllReadyH.nil
   go_simp
   refine hK.out _ _ ?_ (fun hHeld=>?_)
   ·(try dsimp only);go_keep
   clear hK K
   refine wpAnyH_done (by kernel_rfl) ?_ _
   have HO6:=hide hown6
   clear hown6
   go_wp2
   go_roundw
   case rel=>exact⟨k+1,by omega,by go_num,by rw [HTK.out];exact HO6.out,hb6⟩
   case measure=>simp [intOf];omega
  ·obtain rfl:k=l.length:=by omega
   have hkc:decide ((l.length:Int)<(l.length:Int))=false:=by simp
   have HF:=HVL.out
   rw [List.take_length] at HF
   have HFH:=hide HF
   clear HF
   go_wp2
   go_ret
   exact⟨_,rfl,HFH.out,hbel⟩
def numsN (x:No):List Int:=[x.kind,x.who]
theorem knotices_any (l:List No) (v:Value) (w:World) (hv:SeqV 2 noV w v l) (hl:l.length≤100000) :
  Calls Tryz.prog 35 #[v] w fun e w'=>∃ vl,e=.returned vl∧OwnL 3 1 inV w' w.heap.size vl (l.flatMap numsN)∧Below w.heap.size w w':=by
 obtain⟨ao,cap,b,rfl,hao,hc⟩:=hv
 have HA:=hide hao
 have HC:=hide hc
 clear hao hc
 go_enter Tryz.func35,Tryz.ntmps35
 go_wp2
 go_loopw [3,4] (fun vl i wr=>∃ k:Nat,k≤l.length∧i=.int .i64 k∧OwnL 3 1 inV wr w.heap.size vl ((l.take k).flatMap numsN)∧Below w.heap.size w wr) (fun _ i _=>l.length-(intOf i).toNat)
 case atStart=>exact⟨0,Nat.zero_le _,rfl,OwnL.nil _ _ _ _ _,Below.refl _ _⟩
 case round=>
  obtain⟨wo,rfl⟩:∃ x,x=wr:=⟨_,rfl⟩
  obtain⟨k,hk,rfl,hvl,hbel⟩:=hrel
  have HVL:=hide hvl
  obtain⟨vao,vcap,hvv⟩:=hvl.shape
  clear hvl
  generalize hLL:((l.take k).flatMap numsN).length=L at hvv
  subst hvv
  by_cases hlt:k<l.length
  ·have hg:l[k]?=some l[k]:=List.getElem?_eq_getElem hlt
   obtain⟨rfl,hbl⟩:ao=some ⟨b,0,none⟩∧b<w.heap.size:=HA.out.resolve_left (fun e=>by rw [e] at hlt;simp at hlt)
   have c0:=HC.out k _ hg 0 (by omega)
   have c1:=HC.out k _ hg 1 (by omega)
   have HTK:=hide (kflat_take numsN l k hlt)
   have HLN:=hide (show ((l.take k).flatMap numsN).length≤300000 from by rw [kflat_len numsN 2 (fun _=>rfl),List.length_take];omega)
   generalize l[k]=x at *
   obtain⟨x0,x1⟩:=x
   have c0':w.cell? ⟨b,k*2,none⟩=some (.int .i64 x0):=c0
   have c1':w.cell? ⟨b,k*2+1,none⟩=some (.int .i64 x1):=c1
   have d0:=(hbel.cell (p:=⟨b,k*2,none⟩) hbl).trans c0'
   have d1:=(hbel.cell (p:=⟨b,k*2+1,none⟩) hbl).trans c1'
   have hki:(k:Int)<(l.length:Int):=by omega
   have hbA:Below wo.heap.size wo (wo.alloc (.cells #[.int .i64 x0,.int .i64 x1] 3)).drew:=((Below.refl _ _).alloc (Nat.le_refl _) _).drew
   have hbelA:=hbel.trans (hbA.mono hbel.size)
   have hsA:=hbelA.size
   have HVA:=hide (HVL.out.below hbA)
   have HNA:=hide (show (wo.alloc (.cells #[.int .i64 x0,.int .i64 x1] 3)).drew.heap[wo.heap.size]?=some (.cells (([x0,x1]:List Int).flatMap inV).toArray 3 (0,0)) from Go.heap_alloc_new wo _)
   clear hg c0 c1
   go_wp2_with fail
   refine wp_region_held_drew (S:=(fun w'=>w'.cell? ⟨b,k*2,none⟩=some (.int .i64 x0)∧w'.cell? ⟨b,k*2+1,none⟩=some (.int .i64 x1))) (by kernel_rfl) ?_ (fun hHeld=>?_)
   ·(try dsimp only);go_keep
   refine tV 0 11 ?_
   (try simp only [Act.put,lA,lZ,lS])
   refine tV 1 12 ?_
   (try simp only [Act.put,lA,lZ,lS])
   refine tV 2 13 ?_
   (try simp only [Act.put,lA,lZ,lS])
   refine tV 3 14 ?_
   (try simp only [Act.put,lA,lZ,lS])
   refine tV 4 15 ?_
   (try simp only [Act.put,lA,lZ,lS])
   refine tV 5 16 ?_
   (try simp only [Act.put,lA,lZ,lS])
   refine tV 6 17 ?_
   (try simp only [Act.put,lA,lZ,lS])
   refine tV 7 18 ?_
   (try simp only [Act.put,lA,lZ,lS])
   refine tV 8 19 ?_
   (try simp only [Act.put,lA,lZ,lS])
   refine tV 9 20 ?_
   (try simp only [Act.put,lA,lZ,lS])
   refine tV 10 21 ?_
   (try simp only [Act.put,lA,lZ,lS])
   refine wpAnyH_ready (rs:=[11]) (by kernel_rfl) (by simp) ?_
   refine AllReadyH.cons rfl (fun K hK=>?_) AllReadyH.nil
   go_simp
   refine hK.out _ _ ?_ (fun hHeld=>?_)
   ·(try dsimp only);go_keep
   clear hK K
   refine wpAnyH_ready (rs:=[12]) (by kernel_rfl) (by simp) ?_
   refine AllReadyH.cons rfl (fun K hK=>?_) AllReadyH.nil
   refine step_pushN (f:=inV) (l:=(l.take k).flatMap numsN) (B:=w.heap.size) rfl (.tmp 11) (.tmp 22) 25 rfl (.int .i64 0) 8 Tryz.underlying25 Tryz.infoInt2 rfl (by decide) rfl HVA.out wo.heap.size 2 2 [x0,x1] rfl (by decide) rfl 3 (0,0) HNA.out rfl (by intro u hu;simp [inV] at hu;rcases hu with rfl|rfl <;> rfl) (by have:=HLN.out;omega) (by decide) hsA (wo.heap.size+1) (by simp) ?_;intro w6 v6 hown6 hgrow6;have hb6:Below w.heap.size w w6:=hbelA.trans (below_of_grown hgrow6 (fun j hj=>(HVA.out.lt hj).1) hbelA.size);have z0:=(hb6.cell (p:=⟨b,k*2,none⟩) hbl).trans c0';have z1:=(hb6.cell (p:=⟨b,k*2+1,none⟩) hbl).trans c1'
   refine hK.out _ _ ?_ (fun hHeld=>?_)
   ·(try dsimp only);go_keep
   clear hK K
   refine wpAnyH_ready (rs:=[13]) (by kernel_rfl) (by simp) ?_
   refine AllReadyH.cons rfl (fun K hK=>?_) AllReadyH.nil
   go_simp
   refine hK.out _ _ ?_ (fun hHeld=>?_)
   ·(try dsimp only);go_keep
   clear hK K
   refine wpAnyH_done (by kernel_rfl) ?_ _
   have HO6:=hide hown6
   clear hown6
   go_wp2
   go_roundw
   case rel=>exact⟨k+1,by omega,by go_num,by rw [HTK.out];exact HO6.out,hb6⟩
   case measure=>simp [intOf];omega
  ·obtain rfl:k=l.length:=by omega
   have hkc:decide ((l.length:Int)<(l.length:Int))=false:=by simp
   have HF:=HVL.out
   rw [List.take_length] at HF
   have HFH:=hide HF
   clear HF
   go_wp2
   go_ret
   exact⟨_,rfl,HFH.out,hbel⟩
end Go.Proofs.YtgigkiocdiffjaaGreat
