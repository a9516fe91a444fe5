import Derived.Test.YtgigkiocdiffjaaGreatE23
set_option maxRecDepth 100000
set_option maxHeartbeats 16000000
namespace Go.Proofs.YtgigkiocdiffjaaGreat
open Go.RowKit Veil
theorem onDoc_insert (gw pd rd:Nat) (o:OpR) (C:World→Prop) (w:World) (hk:o.kind=7)
  (hE:∀ w',Below w.heap.size w w'→Calls Tryz.prog 90 #[.agg (pairC pd rd),.agg o.cells] w' fun e w''=>e=.returned (.bool true)∧C w'') :
  Calls Tryz.prog 43 #[.pointer (some ⟨gw,0,none⟩),.agg (pairC pd rd),.agg o.cells] w fun e w'=>e=.returned (.bool true)∧C w':=by
 have HE:=hide hE
 clear hE
 obtain⟨kind,a,b,cc,d,e0,s0,t0⟩:=o
 simp only at hk
 subst hk
 unfold OpR.cells pairC at *
 simp only at *
 have hb0:Below w.heap.size w ((w.alloc (.cells #[.pointer (some ⟨pd,0,none⟩),.pointer (some ⟨rd,0,none⟩)] 92)).alloc (.cells #[.int .i64 7,.int .i64 a,.int .i64 b,.int .i64 cc,.int .i64 d,.int .i64 e0,.string s0,.string t0] 57)):=(below_box w _).alloc (by simp) _
 go_enter Tryz.func43,Tryz.ntmps43
 go_wp2_with fail
 refine (HE.out _ hb0).mono ?_
 rintro e w1 ⟨rfl,hC⟩
 have HC:=hide hC
 clear hC
 go_wp2
 go_ret
 exact⟨rfl,HC.out⟩
theorem onDoc_delete (gw pd rd:Nat) (o:OpR) (C:World→Prop) (w:World) (hk:o.kind=8)
  (hE:∀ w',Below w.heap.size w w'→Calls Tryz.prog 90 #[.agg (pairC pd rd),.agg o.cells] w' fun e w''=>e=.returned (.bool true)∧C w'') :
  Calls Tryz.prog 43 #[.pointer (some ⟨gw,0,none⟩),.agg (pairC pd rd),.agg o.cells] w fun e w'=>e=.returned (.bool true)∧C w':=by
 have HE:=hide hE
 clear hE
 obtain⟨kind,a,b,cc,d,e0,s0,t0⟩:=o
 simp only at hk
 subst hk
 unfold OpR.cells pairC at *
 simp only at *
 have hb0:Below w.heap.size w ((w.alloc (.cells #[.pointer (some ⟨pd,0,none⟩),.pointer (some ⟨rd,0,none⟩)] 92)).alloc (.cells #[.int .i64 8,.int .i64 a,.int .i64 b,.int .i64 cc,.int .i64 d,.int .i64 e0,.string s0,.string t0] 57)):=(below_box w _).alloc (by simp) _
 go_enter Tryz.func43,Tryz.ntmps43
 go_wp2_with fail
 refine (HE.out _ hb0).mono ?_
 rintro e w1 ⟨rfl,hC⟩
 have HC:=hide hC
 clear hC
 go_wp2
 go_ret
 exact⟨rfl,HC.out⟩
theorem onDoc_raise (gw pd rd:Nat) (o:OpR) (C:World→Prop) (w:World) (hk:o.kind=13)
  (hE:∀ w',Below w.heap.size w w'→Calls Tryz.prog 90 #[.agg (pairC pd rd),.agg o.cells] w' fun e w''=>e=.returned (.bool true)∧C w'') :
  Calls Tryz.prog 43 #[.pointer (some ⟨gw,0,none⟩),.agg (pairC pd rd),.agg o.cells] w fun e w'=>e=.returned (.bool true)∧C w':=by
 have HE:=hide hE
 clear hE
 obtain⟨kind,a,b,cc,d,e0,s0,t0⟩:=o
 simp only at hk
 subst hk
 unfold OpR.cells pairC at *
 simp only at *
 have hb0:Below w.heap.size w ((w.alloc (.cells #[.pointer (some ⟨pd,0,none⟩),.pointer (some ⟨rd,0,none⟩)] 92)).alloc (.cells #[.int .i64 13,.int .i64 a,.int .i64 b,.int .i64 cc,.int .i64 d,.int .i64 e0,.string s0,.string t0] 57)):=(below_box w _).alloc (by simp) _
 go_enter Tryz.func43,Tryz.ntmps43
 go_wp2_with fail
 refine (HE.out _ hb0).mono ?_
 rintro e w1 ⟨rfl,hC⟩
 have HC:=hide hC
 clear hC
 go_wp2
 go_ret
 exact⟨rfl,HC.out⟩
theorem onDoc_release (gw pd rd:Nat) (o:OpR) (C:World→Prop) (w:World) (hk:o.kind=14)
  (hE:∀ w',Below w.heap.size w w'→Calls Tryz.prog 90 #[.agg (pairC pd rd),.agg o.cells] w' fun e w''=>e=.returned (.bool true)∧C w'') :
  Calls Tryz.prog 43 #[.pointer (some ⟨gw,0,none⟩),.agg (pairC pd rd),.agg o.cells] w fun e w'=>e=.returned (.bool true)∧C w':=by
 have HE:=hide hE
 clear hE
 obtain⟨kind,a,b,cc,d,e0,s0,t0⟩:=o
 simp only at hk
 subst hk
 unfold OpR.cells pairC at *
 simp only at *
 have hb0:Below w.heap.size w ((w.alloc (.cells #[.pointer (some ⟨pd,0,none⟩),.pointer (some ⟨rd,0,none⟩)] 92)).alloc (.cells #[.int .i64 14,.int .i64 a,.int .i64 b,.int .i64 cc,.int .i64 d,.int .i64 e0,.string s0,.string t0] 57)):=(below_box w _).alloc (by simp) _
 go_enter Tryz.func43,Tryz.ntmps43
 go_wp2_with fail
 refine (HE.out _ hb0).mono ?_
 rintro e w1 ⟨rfl,hC⟩
 have HC:=hide hC
 clear hC
 go_wp2
 go_ret
 exact⟨rfl,HC.out⟩
theorem onDoc_view (gw pd rd:Nat) (o:OpR) (C:World→Prop) (w:World) (hk:o.kind=9)
  (hE:∀ w',Below w.heap.size w w'→Calls Tryz.prog 97 #[.agg (pairC pd rd),.agg o.cells] w' fun e w''=>e=.returned (.bool true)∧C w'') :
  Calls Tryz.prog 43 #[.pointer (some ⟨gw,0,none⟩),.agg (pairC pd rd),.agg o.cells] w fun e w'=>e=.returned (.bool true)∧C w':=by
 have HE:=hide hE
 clear hE
 obtain⟨kind,a,b,cc,d,e0,s0,t0⟩:=o
 simp only at hk
 subst hk
 unfold OpR.cells pairC at *
 simp only at *
 have hb0:Below w.heap.size w ((w.alloc (.cells #[.pointer (some ⟨pd,0,none⟩),.pointer (some ⟨rd,0,none⟩)] 92)).alloc (.cells #[.int .i64 9,.int .i64 a,.int .i64 b,.int .i64 cc,.int .i64 d,.int .i64 e0,.string s0,.string t0] 57)):=(below_box w _).alloc (by simp) _
 go_enter Tryz.func43,Tryz.ntmps43
 go_wp2_with fail
 refine (HE.out _ hb0).mono ?_
 rintro e w1 ⟨rfl,hC⟩
 have HC:=hide hC
 clear hC
 go_wp2
 go_ret
 exact⟨rfl,HC.out⟩
theorem onDoc_left (gw pd rd:Nat) (o:OpR) (C:World→Prop) (w:World) (hk:o.kind=12)
  (hE:∀ w',Below w.heap.size w w'→Calls Tryz.prog 97 #[.agg (pairC pd rd),.agg o.cells] w' fun e w''=>e=.returned (.bool true)∧C w'') :
  Calls Tryz.prog 43 #[.pointer (some ⟨gw,0,none⟩),.agg (pairC pd rd),.agg o.cells] w fun e w'=>e=.returned (.bool true)∧C w':=by
 have HE:=hide hE
 clear hE
 obtain⟨kind,a,b,cc,d,e0,s0,t0⟩:=o
 simp only at hk
 subst hk
 unfold OpR.cells pairC at *
 simp only at *
 have hb0:Below w.heap.size w ((w.alloc (.cells #[.pointer (some ⟨pd,0,none⟩),.pointer (some ⟨rd,0,none⟩)] 92)).alloc (.cells #[.int .i64 12,.int .i64 a,.int .i64 b,.int .i64 cc,.int .i64 d,.int .i64 e0,.string s0,.string t0] 57)):=(below_box w _).alloc (by simp) _
 go_enter Tryz.func43,Tryz.ntmps43
 go_wp2_with fail
 refine (HE.out _ hb0).mono ?_
 rintro e w1 ⟨rfl,hC⟩
 have HC:=hide hC
 clear hC
 go_wp2
 go_ret
 exact⟨rfl,HC.out⟩
theorem onDoc_version (gw pd rd:Nat) (o:OpR) (C:World→Prop) (w:World) (hk:o.kind=16)
  (hE:∀ w',Below w.heap.size w w'→Calls Tryz.prog 97 #[.agg (pairC pd rd),.agg o.cells] w' fun e w''=>e=.returned (.bool true)∧C w'') :
  Calls Tryz.prog 43 #[.pointer (some ⟨gw,0,none⟩),.agg (pairC pd rd),.agg o.cells] w fun e w'=>e=.returned (.bool true)∧C w':=by
 have HE:=hide hE
 clear hE
 obtain⟨kind,a,b,cc,d,e0,s0,t0⟩:=o
 simp only at hk
 subst hk
 unfold OpR.cells pairC at *
 simp only at *
 have hb0:Below w.heap.size w ((w.alloc (.cells #[.pointer (some ⟨pd,0,none⟩),.pointer (some ⟨rd,0,none⟩)] 92)).alloc (.cells #[.int .i64 16,.int .i64 a,.int .i64 b,.int .i64 cc,.int .i64 d,.int .i64 e0,.string s0,.string t0] 57)):=(below_box w _).alloc (by simp) _
 go_enter Tryz.func43,Tryz.ntmps43
 go_wp2_with fail
 refine (HE.out _ hb0).mono ?_
 rintro e w1 ⟨rfl,hC⟩
 have HC:=hide hC
 clear hC
 go_wp2
 go_ret
 exact⟨rfl,HC.out⟩
end Go.Proofs.YtgigkiocdiffjaaGreat
namespace Go.Proofs.YtgigkiocdiffjaaGreat
open Go.RowKit Veil
theorem onDoc_log (gw pd rd:Nat) (o:OpR) (C:World→Prop) (w:World) (hk:o.kind=15)
  (hE:∀ w',Below w.heap.size w w'→Calls Tryz.prog 95 #[.pointer (some ⟨gw,0,none⟩),.agg (pairC pd rd),.int .i64 o.b] w' fun e w''=>e=.returned (.bool true)∧C w'') :
  Calls Tryz.prog 43 #[.pointer (some ⟨gw,0,none⟩),.agg (pairC pd rd),.agg o.cells] w fun e w'=>e=.returned (.bool true)∧C w':=by
 have HE:=hide hE
 clear hE
 obtain⟨kind,a,b,cc,d,e0,s0,t0⟩:=o
 simp only at hk
 subst hk
 unfold OpR.cells pairC at *
 simp only at *
 have hb0:Below w.heap.size w ((w.alloc (.cells #[.pointer (some ⟨pd,0,none⟩),.pointer (some ⟨rd,0,none⟩)] 92)).alloc (.cells #[.int .i64 15,.int .i64 a,.int .i64 b,.int .i64 cc,.int .i64 d,.int .i64 e0,.string s0,.string t0] 57)):=(below_box w _).alloc (by simp) _
 go_enter Tryz.func43,Tryz.ntmps43
 go_wp2_with fail
 refine (HE.out _ hb0).mono ?_
 rintro e w1 ⟨rfl,hC⟩
 have HC:=hide hC
 clear hC
 go_wp2
 go_ret
 exact⟨rfl,HC.out⟩
theorem onDoc_poll (gw pd rd:Nat) (o:OpR) (C:World→Prop) (w:World) (hk:o.kind=17)
  (hE:∀ w',Below w.heap.size w w'→Calls Tryz.prog 96 #[.pointer (some ⟨gw,0,none⟩),.agg (pairC pd rd),.int .i64 o.b] w' fun e w''=>e=.returned (.bool true)∧C w'') :
  Calls Tryz.prog 43 #[.pointer (some ⟨gw,0,none⟩),.agg (pairC pd rd),.agg o.cells] w fun e w'=>e=.returned (.bool true)∧C w':=by
 have HE:=hide hE
 clear hE
 obtain⟨kind,a,b,cc,d,e0,s0,t0⟩:=o
 simp only at hk
 subst hk
 unfold OpR.cells pairC at *
 simp only at *
 have hb0:Below w.heap.size w ((w.alloc (.cells #[.pointer (some ⟨pd,0,none⟩),.pointer (some ⟨rd,0,none⟩)] 92)).alloc (.cells #[.int .i64 17,.int .i64 a,.int .i64 b,.int .i64 cc,.int .i64 d,.int .i64 e0,.string s0,.string t0] 57)):=(below_box w _).alloc (by simp) _
 go_enter Tryz.func43,Tryz.ntmps43
 go_wp2_with fail
 refine (HE.out _ hb0).mono ?_
 rintro e w1 ⟨rfl,hC⟩
 have HC:=hide hC
 clear hC
 go_wp2
 go_ret
 exact⟨rfl,HC.out⟩
theorem onDoc_spans (gw pd rd:Nat) (o:OpR) (code:Int) (M:World→Value→Prop) (X:World→Value→Value→Prop) (C:World→Prop) (w:World) (hk:o.kind=10)
  (h1:∀ w',Below w.heap.size w w'→Calls Tryz.prog 28 #[.pointer (some ⟨pd,0,none⟩),.int .i64 o.b] w' fun e w''=>∃ ao n cap,e=.returned (.tuple #[.slice ao n cap,.int .i64 code])∧M w'' (.slice ao n cap)∧Below w'.heap.size w' w'')
  (h2:∀ w'' vl,Below w.heap.size w w''→M w'' vl→Calls Tryz.prog 91 #[.pointer (some ⟨rd,0,none⟩),.int .i64 o.b] w'' fun e w3=>∃ ao n cap,e=.returned (.tuple #[.slice ao n cap,.int .i64 code])∧X w3 vl (.slice ao n cap))
  (h3:∀ w3 vl kv,X w3 vl kv→Calls Tryz.prog 92 #[.pointer (some ⟨gw,0,none⟩),vl,.int .i64 code,kv,.int .i64 code] w3 fun e w'=>e=.returned (.bool true)∧C w') :
  Calls Tryz.prog 43 #[.pointer (some ⟨gw,0,none⟩),.agg (pairC pd rd),.agg o.cells] w fun e w'=>e=.returned (.bool true)∧C w':=by
 have H1:=hide h1
 have H2:=hide h2
 have H3:=hide h3
 clear h1 h2 h3
 obtain⟨kind,a,b,cc,d,e0,s0,t0⟩:=o
 simp only at hk
 subst hk
 unfold OpR.cells pairC at *
 simp only at *
 have hb0:Below w.heap.size w ((w.alloc (.cells #[.pointer (some ⟨pd,0,none⟩),.pointer (some ⟨rd,0,none⟩)] 92)).alloc (.cells #[.int .i64 10,.int .i64 a,.int .i64 b,.int .i64 cc,.int .i64 d,.int .i64 e0,.string s0,.string t0] 57)):=(below_box w _).alloc (by simp) _
 have HN1:=hide (heap_alloc2_old w (.cells #[.pointer (some ⟨pd,0,none⟩),.pointer (some ⟨rd,0,none⟩)] 92) (.cells #[.int .i64 10,.int .i64 a,.int .i64 b,.int .i64 cc,.int .i64 d,.int .i64 e0,.string s0,.string t0] 57))
 have HN2:=hide (heap_alloc2_new w (.cells #[.pointer (some ⟨pd,0,none⟩),.pointer (some ⟨rd,0,none⟩)] 92) (.cells #[.int .i64 10,.int .i64 a,.int .i64 b,.int .i64 cc,.int .i64 d,.int .i64 e0,.string s0,.string t0] 57))
 go_enter Tryz.func43,Tryz.ntmps43
 go_wp2_with fail
 refine (H1.out _ hb0).mono ?_
 rintro e w1 ⟨ao,n,cap,rfl,hM,hb1⟩
 have hbel1:=hb0.trans (hb1.mono hb0.size)
 have HM:=hide hM
 have x1:w1.cell? ⟨w.heap.size,1,none⟩=some (.pointer (some ⟨rd,0,none⟩)):=(cell_of_row _ _ _ _ _ _ (Below.row hb1 HN1.out (lt_of_row HN1.out))).trans rfl
 have x2:w1.cell? ⟨w.heap.size+1,2,none⟩=some (.int .i64 b):=(cell_of_row _ _ _ _ _ _ (Below.row hb1 HN2.out (lt_of_row HN2.out))).trans rfl
 have x3:w1.cell? ⟨w.heap.size+1,6,none⟩=some (.string s0):=(cell_of_row _ _ _ _ _ _ (Below.row hb1 HN2.out (lt_of_row HN2.out))).trans rfl
 clear hb1 hM
 go_wp2_with fail
 refine (H2.out _ _ hbel1 HM.out).mono ?_
 rintro e w2 ⟨kao,kn,kcap,rfl,hx⟩
 have HX:=hide hx
 clear hx x1 x2 x3
 go_wp2_with fail
 refine (H3.out _ _ _ HX.out).mono ?_
 rintro e w3 ⟨rfl,hC⟩
 have HC:=hide hC
 clear hC
 go_wp2
 go_ret
 exact⟨rfl,HC.out⟩
theorem onDoc_find (gw pd rd:Nat) (o:OpR) (code:Int) (M:World→Value→Prop) (X:World→Value→Value→Prop) (C:World→Prop) (w:World) (hk:o.kind=11)
  (h1:∀ w',Below w.heap.size w w'→Calls Tryz.prog 93 #[.pointer (some ⟨pd,0,none⟩),.int .i64 o.b,.string o.s] w' fun e w''=>∃ ao n cap,e=.returned (.tuple #[.slice ao n cap,.int .i64 code])∧M w'' (.slice ao n cap)∧Below w'.heap.size w' w'')
  (h2:∀ w'' vl,Below w.heap.size w w''→M w'' vl→Calls Tryz.prog 94 #[.pointer (some ⟨rd,0,none⟩),.int .i64 o.b,.string o.s] w'' fun e w3=>∃ ao n cap,e=.returned (.tuple #[.slice ao n cap,.int .i64 code])∧X w3 vl (.slice ao n cap))
  (h3:∀ w3 vl kv,X w3 vl kv→Calls Tryz.prog 92 #[.pointer (some ⟨gw,0,none⟩),vl,.int .i64 code,kv,.int .i64 code] w3 fun e w'=>e=.returned (.bool true)∧C w') :
  Calls Tryz.prog 43 #[.pointer (some ⟨gw,0,none⟩),.agg (pairC pd rd),.agg o.cells] w fun e w'=>e=.returned (.bool true)∧C w':=by
 have H1:=hide h1
 have H2:=hide h2
 have H3:=hide h3
 clear h1 h2 h3
 obtain⟨kind,a,b,cc,d,e0,s0,t0⟩:=o
 simp only at hk
 subst hk
 unfold OpR.cells pairC at *
 simp only at *
 have hb0:Below w.heap.size w ((w.alloc (.cells #[.pointer (some ⟨pd,0,none⟩),.pointer (some ⟨rd,0,none⟩)] 92)).alloc (.cells #[.int .i64 11,.int .i64 a,.int .i64 b,.int .i64 cc,.int .i64 d,.int .i64 e0,.string s0,.string t0] 57)):=(below_box w _).alloc (by simp) _
 have HN1:=hide (heap_alloc2_old w (.cells #[.pointer (some ⟨pd,0,none⟩),.pointer (some ⟨rd,0,none⟩)] 92) (.cells #[.int .i64 11,.int .i64 a,.int .i64 b,.int .i64 cc,.int .i64 d,.int .i64 e0,.string s0,.string t0] 57))
 have HN2:=hide (heap_alloc2_new w (.cells #[.pointer (some ⟨pd,0,none⟩),.pointer (some ⟨rd,0,none⟩)] 92) (.cells #[.int .i64 11,.int .i64 a,.int .i64 b,.int .i64 cc,.int .i64 d,.int .i64 e0,.string s0,.string t0] 57))
 go_enter Tryz.func43,Tryz.ntmps43
 go_wp2_with fail
 refine (H1.out _ hb0).mono ?_
 rintro e w1 ⟨ao,n,cap,rfl,hM,hb1⟩
 have hbel1:=hb0.trans (hb1.mono hb0.size)
 have HM:=hide hM
 have x1:w1.cell? ⟨w.heap.size,1,none⟩=some (.pointer (some ⟨rd,0,none⟩)):=(cell_of_row _ _ _ _ _ _ (Below.row hb1 HN1.out (lt_of_row HN1.out))).trans rfl
 have x2:w1.cell? ⟨w.heap.size+1,2,none⟩=some (.int .i64 b):=(cell_of_row _ _ _ _ _ _ (Below.row hb1 HN2.out (lt_of_row HN2.out))).trans rfl
 have x3:w1.cell? ⟨w.heap.size+1,6,none⟩=some (.string s0):=(cell_of_row _ _ _ _ _ _ (Below.row hb1 HN2.out (lt_of_row HN2.out))).trans rfl
 clear hb1 hM
 go_wp2_with fail
 refine (H2.out _ _ hbel1 HM.out).mono ?_
 rintro e w2 ⟨kao,kn,kcap,rfl,hx⟩
 have HX:=hide hx
 clear hx x1 x2 x3
 go_wp2_with fail
 refine (H3.out _ _ _ HX.out).mono ?_
 rintro e w3 ⟨rfl,hC⟩
 have HC:=hide hC
 clear hC
 go_wp2
 go_ret
 exact⟨rfl,HC.out⟩
end Go.Proofs.YtgigkiocdiffjaaGreat
