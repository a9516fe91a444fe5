import Derived.Test.YtgigkiocdiffjaaGreatE12
set_option maxRecDepth 100000
set_option maxHeartbeats 16000000
namespace Go.Proofs.YtgigkiocdiffjaaGreat
open Go.RowKit Veil
theorem rraise_no1 (c:Cfg) (v:CfgV) (rows:List (RC × Value)) (rv av:Value) (g:Nat) (level a b lb2:Int) (w:World) (hdoc:RDocR w g c v rows rv av) (hlv:okL c.labels level=false) :
  Calls Tryz.prog 134 #[.pointer (some ⟨g,0,none⟩),.int .i64 level,.int .i64 a,.int .i64 b,.int .i64 lb2] w fun e w'=>e=.returned (.int .i64 6)∧Below w.heap.size w w':=by
 have HLB:=hide (fun w'=>rlabel_any c v level w')
 obtain⟨q0,q1,q2,q3⟩:=hdoc.box.cells
 rw [hlv] at HLB
 unfold cfgCells at HLB
 clear hlv hdoc
 go_enter Tryz.func134,Tryz.ntmps134
 go_wp2_with fail
 refine (HLB.out _).mono ?_
 rintro e w1 ⟨rfl,hb1⟩
 go_wp2
 go_ret
 exact⟨rfl,hb1⟩
theorem rraise_no1b (c:Cfg) (v:CfgV) (rows:List (RC × Value)) (rv av:Value) (g:Nat) (level a b lb2:Int) (w:World) (hdoc:RDocR w g c v rows rv av) (hlv:okL c.labels level=true) (hlb:okL c.labels lb2=false) :
  Calls Tryz.prog 134 #[.pointer (some ⟨g,0,none⟩),.int .i64 level,.int .i64 a,.int .i64 b,.int .i64 lb2] w fun e w'=>e=.returned (.int .i64 6)∧Below w.heap.size w w':=by
 have HLB:=hide (fun w'=>rlabel_any c v level w')
 have HLB2:=hide (fun w'=>rlabel_any c v lb2 w')
 have HBX:=hide hdoc.box
 have hgl:=hdoc.box.lt
 obtain⟨q0,q1,q2,q3⟩:=hdoc.box.cells
 rw [hlv] at HLB
 rw [hlb] at HLB2
 unfold cfgCells at HLB HLB2
 clear hlv hlb hdoc
 go_enter Tryz.func134,Tryz.ntmps134
 go_wp2_with fail
 refine (HLB.out _).mono ?_
 rintro e w1 ⟨rfl,hb1⟩
 clear q0 q1 q2 q3
 obtain⟨q0,q1,q2,q3⟩:=(HBX.out.below hb1 hgl).cells
 go_wp2_with fail
 refine (HLB2.out _).mono ?_
 rintro e w2 ⟨rfl,hb2⟩
 have hb:=hb1.trans (hb2.mono hb1.size)
 clear hb1 hb2 q0 q1 q2 q3
 go_wp2
 go_ret
 exact⟨rfl,hb⟩
theorem rraise_no2 (c:Cfg) (v:CfgV) (rows:List (RC × Value)) (rv av:Value) (g level:Nat) (a b lb2:Int) (w:World) (hdoc:RDocR w g c v rows rv av) (hok:RDocOk c rows) (hlv:okL c.labels level=true) (hlb:okL c.labels lb2=true) (hno:a<0∨b≤a∨((placesR c (rows.map (·.1)) level).length:Int)<b) :
  Calls Tryz.prog 134 #[.pointer (some ⟨g,0,none⟩),.int .i64 level,.int .i64 a,.int .i64 b,.int .i64 lb2] w fun e w'=>e=.returned (.int .i64 7)∧Below w.heap.size w w':=by
 obtain⟨_,_,_,_,hn,_,_⟩:=labels_of hok.labels
 obtain⟨lv,hlv1,hlv2⟩:=okL_nat' hn hlv
 obtain rfl:level=lv:=by omega
 have HLB:=hide (fun w'=>rlabel_any c v level w')
 have HLB2:=hide (fun w'=>rlabel_any c v lb2 w')
 have HBX:=hide hdoc.box
 have hgl0:=hdoc.box.lt
 have HCE:=hide (fun (w':World) (hb:Below w.heap.size w w')=>rcells_no c v rows rv av g level a b w' (hdoc.below hb) hok hlv2 hno)
 obtain⟨q0,q1,q2,q3⟩:=hdoc.box.cells
 rw [hlv] at HLB
 rw [hlb] at HLB2
 unfold cfgCells at HLB HLB2
 clear hlv hlb hdoc hok hno hn hlv1
 go_enter Tryz.func134,Tryz.ntmps134
 go_wp2_with fail
 refine (HLB.out _).mono ?_
 rintro e w01 ⟨rfl,hb01⟩
 clear q0 q1 q2 q3
 obtain⟨q0,q1,q2,q3⟩:=(HBX.out.below hb01 hgl0).cells
 go_wp2_with fail
 refine (HLB2.out _).mono ?_
 rintro e w1 ⟨rfl,hb02⟩
 have hb1:=hb01.trans (hb02.mono hb01.size)
 clear hb01 hb02
 go_wp2_with fail
 refine (HCE.out _ hb1).mono ?_
 rintro e w2 ⟨rfl,hb2⟩
 have hb:=hb1.trans (hb2.mono hb1.size)
 clear hb1 hb2 q0 q1 q2 q3
 go_wp2
 go_ret
 exact⟨rfl,hb⟩
theorem rraise_ok (w0 w:World) (g:Nat) (c:Cfg) (v:CfgV) (rows:List (RC × Value)) (acts:List RA) (rv av:Value) (level a b lb2:Nat) (hdoc:RDocO w0 w g c v rows acts rv av) (hok:RDocOk c rows) (hlv:okL c.labels level=true) (hlb:okL c.labels lb2=true) (hab:a<b) (hbl:b≤(placesR c (rows.map (·.1)) level).length)
  (hmk:∀ (i:Nat) (p:RC × Value),rows[i]?=some p→p.1.marks.length≤4000000000000) (hal:acts.length≤4000000000000) (hrc:(cellsTo c (rows.map (·.1)) level (placesR c (rows.map (·.1)) level) a b).length≤1000000000000∧∀ r,r ∈ cellsTo c (rows.map (·.1)) level (placesR c (rows.map (·.1)) level) a b→r<rows.length) :
  Calls Tryz.prog 134 #[.pointer (some ⟨g,0,none⟩),.int .i64 level,.int .i64 a,.int .i64 b,.int .i64 lb2] w
   fun e w'=>e=.returned (.int .i64 0)∧∃ rows' av',RDocO w0 w' g c v rows' (acts++[⟨3,level,level,0⟩]) rv av'∧rows'.map (·.1)=markAll (rows.map (·.1)) (cellsTo c (rows.map (·.1)) level (placesR c (rows.map (·.1)) level) a b) ⟨3,level,lb2⟩∧Only (fun k=>∃ s,blkOf' g rv av rows s=some k) w w'∧(∀ s b,blkOf' g rv av' rows' s=some b→(∃ s,blkOf' g rv av rows s=some b)∨w.heap.size≤b):=by
 obtain⟨_,_,_,_,hn,_,_⟩:=labels_of hok.labels
 obtain⟨lv,hlv1,hlv2⟩:=okL_nat' hn hlv
 obtain rfl:level=lv:=by omega
 obtain⟨hp1,hp2⟩:=places_of hok level
 have HLB:=hide (fun w'=>rlabel_any c v level w')
 have HLB2:=hide (fun w'=>rlabel_any c v lb2 w')
 have HBX:=hide hdoc.box
 have hgl0:=hdoc.box.lt
 have HCE:=hide (fun (w':World) (hb:Below w.heap.size w w')=>rcells_ok c v rows rv av g level a b w' (hdoc.read.below hb) hok hlv2 hab hbl hp1 (fun p hp=>⟨(hp2 p hp).le,(hp2 p hp).lt⟩))
 have HDOC:=hide hdoc
 obtain⟨q0,q1,q2,q3⟩:=hdoc.box.cells
 rw [hlv] at HLB
 rw [hlb] at HLB2
 unfold cfgCells at HLB HLB2
 have HRC:=hide hrc
 have HMK:=hide hmk
 generalize cellsTo c (rows.map (·.1)) level (placesR c (rows.map (·.1)) level) a b=L at *
 clear hlv hlb hdoc hok hn hlv1 hp1 hp2 hbl hrc hmk
 go_enter Tryz.func134,Tryz.ntmps134
 go_wp2_with fail
 refine (HLB.out _).mono ?_
 rintro e w01 ⟨rfl,hb01⟩
 clear q0 q1 q2 q3
 obtain⟨q0,q1,q2,q3⟩:=(HBX.out.below hb01 hgl0).cells
 go_wp2_with fail
 refine (HLB2.out _).mono ?_
 rintro e w1 ⟨rfl,hb02⟩
 have hb1:=hb01.trans (hb02.mono hb01.size)
 clear hb01 hb02
 go_wp2_with fail
 refine (HCE.out _ hb1).mono ?_
 rintro e w2 ⟨vl,rfl,hvl,hb2⟩
 have hbw:=hb1.trans (hb2.mono hb1.size)
 have HD2:=hide (HDOC.out.drop hbw)
 have HVL:=hide hvl
 have hsz1:=hb1.size
 clear hb1 hb2 q0 q1 q2 q3 hvl
 obtain⟨lao,lcap,hvv⟩:=HVL.out.shape
 subst hvv
 have HMA:Hid (Calls Tryz.prog 160 #[.pointer (some ⟨g,0,none⟩),.slice lao L.length lcap,.agg #[.int .i64 3,.int .i64 level,.int .i64 lb2]] w2
   fun e w'=>e=.returned (.tuple #[])∧∃ rows',RDocO w0 w' g c v rows' acts rv av∧rows'.map (·.1)=markAll (rows.map (·.1)) L ⟨3,level,lb2⟩∧Only (fun k=>∃ s,blkOf' g rv av rows s=some k) w2 w'∧(∀ s b,blkOf' g rv av rows' s=some b→(∃ s,blkOf' g rv av rows s=some b)∨w2.heap.size≤b)):=by
  by_cases hL0:L.length=0
  ·exact rmark_any w0 w2 g c v rows acts rv av L lao 0 lcap ⟨3,level,lb2⟩ HD2.out (Or.inl (List.eq_nil_of_length_eq_zero hL0)) (fun h=>absurd (List.eq_nil_of_length_eq_zero hL0) h) (fun h=>absurd (List.eq_nil_of_length_eq_zero hL0) h) (fun k r h=>by rw [List.eq_nil_of_length_eq_zero hL0] at h;simp at h) (by omega) (fun i p hp=>by have:=HMK.out i p hp;omega)
  ·obtain⟨lb,lc,hvv,hlb1,hlb2⟩:=HVL.out.form (by omega)
   simp only [Value.slice.injEq] at hvv
   obtain⟨rfl,_,rfl⟩:=hvv
   refine rmark_any w0 w2 g c v rows acts rv av L _ lb lcap ⟨3,level,lb2⟩ HD2.out (Or.inr rfl) (fun _=>hlb2) (fun _ s hs=>?_) (fun k r h=>⟨?_,HRC.out.2 r (List.mem_of_getElem? h)⟩) (by have:=HRC.out.1;omega) (fun i p hp=>by have:=HMK.out i p hp;have:=HRC.out.1;omega)
   ·have:=(HDOC.out.parts.low s lb hs).2
    omega
   ·have:=HVL.out.cell (show ∀ a,(intV a).length=1 from fun _=>rfl) rfl h (j:=0) Nat.zero_lt_one
    simpa [intV] using this
 go_wp2_with fail
 refine (HMA.out).mono ?_
 rintro e w3 ⟨rfl,rows',hd3,hm3,ho3,hf3⟩
 have HD3:=hide hd3
 have HM3:=hide hm3
 have HO3:=hide ((Only.of_below (F:=fun k=>∃ s,blkOf' g rv av rows s=some k) hbw).trans ho3 (fun k h=>Or.inl h))
 have HF3:=hide (show ∀ s b,blkOf' g rv av rows' s=some b→(∃ s,blkOf' g rv av rows s=some b)∨w.heap.size≤b from fun s b hb=>(hf3 s b hb).imp id (fun h=>by have:=hbw.size;omega))
 have t5:=hd3.box.acts
 have hgl:=hd3.box.lt
 have hbA:Below w3.heap.size w3 (w3.alloc (.cells #[.int .i64 3,.int .i64 level,.int .i64 level,.int .i64 0] 225)):=below_box w3 _
 have HOA:=hide (hd3.acts.below hbA)
 have HNA:=hide (Go.heap_alloc_new w3 (.cells #[.int .i64 3,.int .i64 level,.int .i64 level,.int .i64 0] 225))
 have HAG:=hide (show ∀ b,av.ownBlock=some b→b≠g from fun b hb e=>by subst e;cases HD3.out.parts.apart .box .acts b rfl hb)
 have HBX3:=hide hd3.box
 have hB0:=hd3.old.size
 clear hd3 hm3 ho3 hf3
 go_wp2_with (at_builtin;refine wpList_push rfl (.tmp 49) (.tmp 53) 151 rfl (.agg #[.int .i64 0,.int .i64 0,.int .i64 0,.int .i64 0]) 32 Tryz.underlying151 Tryz.infoRAct rfl (by decide) rfl HOA.out w3.heap.size 1 ⟨3,level,level,0⟩ rfl 225 (0,0) HNA.out rfl (by intro u hu;simp [actV] at hu;rcases hu with rfl|rfl|rfl <;> rfl) (by omega) (by decide) (by simp;omega) (w3.heap.size+1) (by simp) ?_;intro g6 cap6 w6 hown6 hgrow6 hat6 hlt6;have z5:=(hgrow6.cell_far ⟨g,5,none⟩ (by simp;omega) (fun e=>HAG.out _ e.symm rfl)).trans ((hbA.cell (p:=⟨g,5,none⟩) hgl).trans t5);have z7:w6.frozen? ⟨g,5,none⟩=false:=by (rw [hgrow6.frozen_far ⟨g,5,none⟩ (by simp;omega) (fun e=>HAG.out _ e.symm rfl)];exact frozen_of_row _ _ _ _ _ (row_alloc' HBX3.out)))
 obtain⟨n1,n2,n3⟩:=actStep HD3.out hbA hown6 hgrow6 (by have h:av.ownBlock=some g6∨g6=w3.heap.size+1:=hat6;simpa using h) hlt6
 go_ret
 exact⟨rfl,rows',_,n1,HM3.out,HO3.out.trans n2 (fun b ⟨s,hs⟩=>HF3.out s b hs),fun s b hb=>by
  rcases n3 s b hb with⟨s',hs⟩|h
  ·exact HF3.out s' b hs
  ·right;have:=HO3.out.size;omega⟩
end Go.Proofs.YtgigkiocdiffjaaGreat
