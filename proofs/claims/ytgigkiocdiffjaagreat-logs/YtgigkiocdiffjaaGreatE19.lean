import Derived.Test.YtgigkiocdiffjaaGreatE18
set_option maxRecDepth 100000
set_option maxHeartbeats 16000000
namespace Go.Proofs.YtgigkiocdiffjaaGreat
open Go.RowKit Veil
structure No where
 kind:Int
 who:Int
def noV (x:No):List Value:=[.int .i64 x.kind,.int .i64 x.who]
def clearB (a:RA) (d:Nat):Bool:=(a.kind == 5) && (a.who == (d:Int))
def fullB (l:List No):Bool:=decide (4≤l.length) || (decide (l.length=1) && ((l.getD 0 ⟨1,0⟩).kind == 0))
def waitS (c:Cfg) (d:Nat) (l:List No) (a:RA):List No:=
 bif clearB a d then [] else bif !countB c a d || (a.who == (d:Int)) then l else bif fullB l then [⟨0,-1⟩] else l++[⟨a.kind,a.who⟩]
def waitsTo (c:Cfg) (acts:List RA) (d k:Nat):List No:=(acts.take k).foldl (waitS c d) []
theorem waitsTo_succ {c:Cfg} {acts:List RA} {d k:Nat} {a:RA} (h:acts[k]?=some a):waitsTo c acts d (k+1)=waitS c d (waitsTo c acts d k) a:=foldl_snoc _ _ _ _ _ h
theorem waitS_length (c:Cfg) (d:Nat) (l:List No) (a:RA) (h:l.length≤4):(waitS c d l a).length≤4:=by
 unfold waitS
 cases clearB a d
 ·cases (!countB c a d || (a.who == (d:Int)))
  ·cases hf:fullB l
   ·have:¬ 4≤l.length:=by
     intro h4
     rw [fullB] at hf
     simp [h4] at hf
    simp;omega
   ·simp
  ·exact h
 ·simp
theorem foldl_waits (c:Cfg) (d:Nat):∀ (l:List RA) (z:List No),z.length≤4→(l.foldl (waitS c d) z).length≤4
 | [],_,h=>h
 | a :: l,z,h=>foldl_waits c d l _ (waitS_length c d z a h)
theorem waitsTo_length (c:Cfg) (acts:List RA) (d k:Nat):(waitsTo c acts d k).length≤4:=foldl_waits c d _ _ (by simp)
theorem Tryz.infoNotice:(Tryz.prog.info? 100).map (fun i=>(i.zero,i.size,i.bytes))=some (some (.agg #[.int .i64 0,.int .i64 0]),2,16):=by kernel_rfl
theorem own_one {α:Type} (e:TypeId) (sz:Nat) (f:α→List Value) (w:World) (B:Nat) (a:α) (hf:(f a).length=sz) (hB:B≤w.heap.size):OwnL e sz f (w.alloc (.cells (f a).toArray e)) B (.slice (some ⟨w.heap.size,0,none⟩) 1 1) [a]:=by
 refine⟨by simp [hf],Or.inr ⟨w.heap.size,1,(f a).toArray,rfl,hB,Go.heap_alloc_new _ _,by simp,by simp [maxLen],by simp [hf],?_⟩⟩
 simp [← hf]
theorem rwaits_any (w0 w:World) (g:Nat) (c:Cfg) (v:CfgV) (rows:List (RC × Value)) (acts:List RA) (rv av:Value) (level:Nat) (hdoc:RDocO w0 w g c v rows acts rv av) (hok:RDocOk c rows) (hlv2:level<c.n) (hra:∀ a,a ∈ acts→RAOk c a) (hal:acts.length≤4000000000000) :
  Calls Tryz.prog 164 #[.pointer (some ⟨g,0,none⟩),.int .i64 level] w fun e w'=>∃ vl,e=.returned vl∧OwnL 100 2 noV w' w.heap.size vl (waitsTo c acts level acts.length)∧Below w.heap.size w w':=by
 have HCO:=hide (fun (a:RA) (w':World) (hb:Below w.heap.size w w') (ha:RAOk c a)=>rcounts_any c v rv av g level a w' hok.labels (hdoc.read.cfg.below hb) (hdoc.box.below hb hdoc.box.lt) ha hlv2)
 have HBX:=hide hdoc.box
 have hgl:=hdoc.box.lt
 have HAC:=hide hdoc.acts
 have HRA:=hide hra
 obtain⟨aao,acap,haa⟩:=hdoc.acts.shape
 subst haa
 clear hdoc hok hlv2 hra
 go_enter Tryz.func164,Tryz.ntmps164
 go_wp2
 go_loopw [5,6] (fun vl i wr=>∃ k:Nat,k≤acts.length∧i=.int .i64 k∧OwnL 100 2 noV wr w.heap.size vl (waitsTo c acts level k)∧Below w.heap.size w wr) (fun _ i _=>acts.length-(intOf i).toNat)
 case atStart=>exact⟨0,Nat.zero_le _,rfl,OwnL.nil _ _ _ _ _,Below.refl _ _⟩
 case round=>
  obtain⟨wo,rfl⟩:∃ x,x=wr:=⟨_,rfl⟩
  obtain⟨k,hk,rfl,hvl,hbel⟩:=hrel
  have HVL:=hide hvl
  clear hvl
  have r5:=(HBX.out.below hbel hgl).acts
  by_cases hlt:k<acts.length
  ·obtain⟨ab,ac,hvv,_,hab⟩:=HAC.out.form (by omega)
   simp only [Value.slice.injEq] at hvv
   obtain⟨rfl,_,rfl⟩:=hvv
   have hej:acts[k]?=some acts[k]:=List.getElem?_eq_getElem hlt
   have c0:=HAC.out.cell (show ∀ a,(actV a).length=4 from fun _=>rfl) rfl hej (j:=0) (by omega)
   have c1:=HAC.out.cell (show ∀ a,(actV a).length=4 from fun _=>rfl) rfl hej (j:=1) (by omega)
   have c2:=HAC.out.cell (show ∀ a,(actV a).length=4 from fun _=>rfl) rfl hej (j:=2) (by omega)
   have c3:=HAC.out.cell (show ∀ a,(actV a).length=4 from fun _=>rfl) rfl hej (j:=3) (by omega)
   have HST:=hide (waitsTo_succ (c:=c) (d:=level) hej)
   have hwl:=waitsTo_length c acts level k
   have hao:=HRA.out _ (List.getElem_mem hlt)
   generalize acts[k]=a at *
   obtain⟨kind,who,target,cells⟩:=a
   have d0:wo.cell? ⟨ab,k*4,none⟩=some (.int .i64 kind):=(hbel.cell (p:=⟨ab,k*4,none⟩) hab).trans c0
   have d1:wo.cell? ⟨ab,k*4+1,none⟩=some (.int .i64 who):=(hbel.cell (p:=⟨ab,k*4+1,none⟩) hab).trans c1
   have d2:wo.cell? ⟨ab,k*4+2,none⟩=some (.int .i64 target):=(hbel.cell (p:=⟨ab,k*4+2,none⟩) hab).trans c2
   have d3:wo.cell? ⟨ab,k*4+3,none⟩=some (.int .i64 cells):=(hbel.cell (p:=⟨ab,k*4+3,none⟩) hab).trans c3
   have hki:(k:Int)<(acts.length:Int):=by omega
   have hbA:Below wo.heap.size wo (wo.alloc (.cells #[.int .i64 kind,.int .i64 who,.int .i64 target,.int .i64 cells] 225)):=below_box wo _
   have hbelA:Below w.heap.size w (wo.alloc (.cells #[.int .i64 kind,.int .i64 who,.int .i64 target,.int .i64 cells] 225)):=hbel.alloc hbel.size _
   have HVLA:=hide (HVL.out.below hbA)
   have HNA:=hide (Go.heap_alloc_new wo (.cells #[.int .i64 kind,.int .i64 who,.int .i64 target,.int .i64 cells] 225))
   have HC1:=hide (HCO.out ⟨kind,who,target,cells⟩ (wo.alloc (.cells #[.int .i64 kind,.int .i64 who,.int .i64 target,.int .i64 cells] 225)) hbelA hao)
   simp only at HC1
   generalize waitsTo c acts level k=W at *
   clear c0 c1 c2 c3 hej hao
   by_cases hk5:kind=5
   ·subst hk5
    have hcb:countB c ⟨5,who,target,cells⟩ level=false:=by simp [countB]
    rw [hcb] at HC1
    clear hcb
    cases hw:(who == (level:Int))
    ·have HZ:=hide (show waitS c level W ⟨5,who,target,cells⟩=W by unfold waitS;simp [clearB,countB,hw])
     go_wp2_with fail
     refine (HC1.out).mono ?_
     rintro e w2 ⟨rfl,hb2⟩
     have hbel2:=hbelA.trans (hb2.mono hbelA.size)
     have HVL2:=hide (HVLA.out.below hb2)
     have HN2:=hide (Below.row hb2 HNA.out (lt_of_row HNA.out))
     have e0:w2.cell? ⟨wo.heap.size,0,none⟩=some (.int .i64 5):=(cell_of_row _ _ _ _ _ _ HN2.out).trans rfl
     have e1:w2.cell? ⟨wo.heap.size,1,none⟩=some (.int .i64 who):=(cell_of_row _ _ _ _ _ _ HN2.out).trans rfl
     clear hb2 d0 d1 d2 d3 r5
     go_wp2
     go_roundw
     case rel=>exact⟨k+1,by omega,by go_num,by rw [HST.out,HZ.out];exact HVL2.out,hbel2⟩
     case measure=>simp [intOf];omega
    ·have HZ:=hide (show waitS c level W ⟨5,who,target,cells⟩=[] by unfold waitS;simp [clearB,hw])
     obtain rfl:who=(level:Int):=by simpa using hw
     clear hw
     go_wp2_with fail
     refine (HC1.out).mono ?_
     rintro e w2 ⟨rfl,hb2⟩
     have hbel2:=hbelA.trans (hb2.mono hbelA.size)
     have HVL2:=hide (HVLA.out.below hb2)
     have HN2:=hide (Below.row hb2 HNA.out (lt_of_row HNA.out))
     have e0:w2.cell? ⟨wo.heap.size,0,none⟩=some (.int .i64 5):=(cell_of_row _ _ _ _ _ _ HN2.out).trans rfl
     have e1:w2.cell? ⟨wo.heap.size,1,none⟩=some (.int .i64 (level:Int)):=(cell_of_row _ _ _ _ _ _ HN2.out).trans rfl
     clear hb2 d0 d1 d2 d3 r5
     go_wp2
     go_roundw
     case rel=>exact⟨k+1,by omega,by go_num,by rw [HST.out,HZ.out];exact OwnL.nil _ _ _ _ _,hbel2⟩
     case measure=>simp [intOf];omega
   ·have hk5':(kind == 5)=false:=by simpa using hk5
    have HCL:=hide (show clearB ⟨kind,who,target,cells⟩ level=false by simp [clearB,hk5])
    generalize hcb:countB c ⟨kind,who,target,cells⟩ level=cb at *
    cases cb
    ·have HZ:=hide (show waitS c level W ⟨kind,who,target,cells⟩=W by unfold waitS;rw [HCL.out,hcb];rfl)
     go_wp2_with fail
     refine (HC1.out).mono ?_
     rintro e w2 ⟨rfl,hb2⟩
     have hbel2:=hbelA.trans (hb2.mono hbelA.size)
     have HVL2:=hide (HVLA.out.below hb2)
     have HN2:=hide (Below.row hb2 HNA.out (lt_of_row HNA.out))
     have e0:w2.cell? ⟨wo.heap.size,0,none⟩=some (.int .i64 kind):=(cell_of_row _ _ _ _ _ _ HN2.out).trans rfl
     have e1:w2.cell? ⟨wo.heap.size,1,none⟩=some (.int .i64 who):=(cell_of_row _ _ _ _ _ _ HN2.out).trans rfl
     clear hb2 d0 d1 d2 d3 r5
     go_wp2
     go_roundw
     case rel=>exact⟨k+1,by omega,by go_num,by rw [HST.out,HZ.out];exact HVL2.out,hbel2⟩
     case measure=>simp [intOf];omega
    ·cases hw:(who == (level:Int))
     ·have HZF:=hide (show ∀ b,fullB W=b→waitS c level W ⟨kind,who,target,cells⟩=bif b then [⟨0,-1⟩] else W++[⟨kind,who⟩] from fun b hb=>by unfold waitS;rw [HCL.out,hcb,hb];simp [hw])
      obtain⟨ao,cap,hvv⟩:=HVL.out.shape
      subst hvv
      go_wp2_with fail
      refine (HC1.out).mono ?_
      rintro e w2 ⟨rfl,hb2⟩
      have hbel2:=hbelA.trans (hb2.mono hbelA.size)
      have HVL2:=hide (HVLA.out.below hb2)
      have HN2:=hide (Below.row hb2 HNA.out (lt_of_row HNA.out))
      have e0:w2.cell? ⟨wo.heap.size,0,none⟩=some (.int .i64 kind):=(cell_of_row _ _ _ _ _ _ HN2.out).trans rfl
      have e1:w2.cell? ⟨wo.heap.size,1,none⟩=some (.int .i64 who):=(cell_of_row _ _ _ _ _ _ HN2.out).trans rfl
      clear hb2 d0 d1 d2 d3 r5
      have hbR:Below w.heap.size w (w2.alloc (.cells #[.int .i64 0,.int .i64 (-1)] 100)):=hbel2.alloc hbel2.size _
      have HOR:=hide (own_one 100 2 noV w2 w.heap.size ⟨0,-1⟩ rfl hbel2.size)
      have hbP:Below w2.heap.size w2 (w2.alloc (.cells #[.int .i64 kind,.int .i64 who] 100)):=below_box w2 _
      have hbelP:Below w.heap.size w (w2.alloc (.cells #[.int .i64 kind,.int .i64 who] 100)):=hbel2.alloc hbel2.size _
      have HVP:=hide (HVL2.out.below hbP)
      have HNP:=hide (Go.heap_alloc_new w2 (.cells #[.int .i64 kind,.int .i64 who] 100))
      by_cases h4:4≤W.length
      ·have HZ:=hide (HZF.out true (by simp [fullB,h4]))
       have h4':(4:Int)≤(W.length:Int):=by omega
       go_wp2
       go_roundw
       case rel=>exact⟨k+1,by omega,by go_num,by rw [HST.out,HZ.out];exact HOR.out,hbR⟩
       case measure=>simp [intOf];omega
      ·have h4':decide ((4:Int)≤(W.length:Int))=false:=by simp;omega
       have h4n:¬ (4:Int)≤(W.length:Int):=by omega
       by_cases h1:W.length=1
       ·obtain⟨gl,cl,hvv,_,hgl2⟩:=HVL2.out.form (by omega)
        simp only [Value.slice.injEq] at hvv
        obtain⟨rfl,_,rfl⟩:=hvv
        have hej:W[0]?=some (W[0]'(by omega)):=List.getElem?_eq_getElem (by omega)
        have y0:=HVL2.out.cell (show ∀ a,(noV a).length=2 from fun _=>rfl) rfl hej (j:=0) (by omega)
        have HG0:=hide (show W.getD 0 ⟨1,0⟩=W[0]'(by omega) by simp [List.getD,hej])
        generalize (W[0]'(by omega))=q at *
        obtain⟨qk,qw⟩:=q
        have y0':w2.cell? ⟨gl,0,none⟩=some (.int .i64 qk):=y0
        have h1':(W.length:Int)=1:=by omega
        have H1:=hide h1
        clear hej y0 h1
        cases hq:(qk == 0)
        ·have HZ:=hide (HZF.out false (by unfold fullB;rw [HG0.out];simp [hq,H1.out]))
         go_wp2_with (at_builtin;refine wpList_push rfl (.tmp 63) (.tmp 69) 79 rfl (.agg #[.int .i64 0,.int .i64 0]) 16 Tryz.underlying79 Tryz.infoNotice rfl (by decide) rfl HVP.out w2.heap.size 1 ⟨kind,who⟩ rfl 100 (0,0) HNP.out rfl (by intro u hu;simp [noV] at hu;rcases hu with rfl|rfl <;> rfl) (by omega) (by decide) hbelP.size (w2.heap.size+1) (by simp) ?_;intro g6 cap6 w6 hown6 hgrow6 hat6 hlt6)
         have hb6:=hbelP.trans (below_of_grown hgrow6 (fun b hb=>(HVP.out.lt hb).1) hbelP.size)
         go_roundw
         case rel=>exact⟨k+1,by omega,by go_num,by rw [HST.out,HZ.out];exact hown6,hb6⟩
         case measure=>simp [intOf];omega
        ·have HZ:=hide (HZF.out true (by unfold fullB;rw [HG0.out];simp [hq,H1.out]))
         obtain rfl:qk=0:=by simpa using hq
         clear hq
         go_wp2
         go_roundw
         case rel=>exact⟨k+1,by omega,by go_num,by rw [HST.out,HZ.out];exact HOR.out,hbR⟩
         case measure=>simp [intOf];omega
       ·have HZ:=hide (HZF.out false (by simp [fullB,h4,h1]))
        have h1':((W.length:Int) == 1)=false:=by simp;omega
        go_wp2_with (at_builtin;refine wpList_push rfl (.tmp 63) (.tmp 69) 79 rfl (.agg #[.int .i64 0,.int .i64 0]) 16 Tryz.underlying79 Tryz.infoNotice rfl (by decide) rfl HVP.out w2.heap.size 1 ⟨kind,who⟩ rfl 100 (0,0) HNP.out rfl (by intro u hu;simp [noV] at hu;rcases hu with rfl|rfl <;> rfl) (by omega) (by decide) hbelP.size (w2.heap.size+1) (by simp) ?_;intro g6 cap6 w6 hown6 hgrow6 hat6 hlt6)
        have hb6:=hbelP.trans (below_of_grown hgrow6 (fun b hb=>(HVP.out.lt hb).1) hbelP.size)
        go_roundw
        case rel=>exact⟨k+1,by omega,by go_num,by rw [HST.out,HZ.out];exact hown6,hb6⟩
        case measure=>simp [intOf];omega
     ·have HZ:=hide (show waitS c level W ⟨kind,who,target,cells⟩=W by unfold waitS;rw [HCL.out,hcb];simp [hw])
      obtain rfl:who=(level:Int):=by simpa using hw
      clear hw
      go_wp2_with fail
      refine (HC1.out).mono ?_
      rintro e w2 ⟨rfl,hb2⟩
      have hbel2:=hbelA.trans (hb2.mono hbelA.size)
      have HVL2:=hide (HVLA.out.below hb2)
      have HN2:=hide (Below.row hb2 HNA.out (lt_of_row HNA.out))
      have e0:w2.cell? ⟨wo.heap.size,0,none⟩=some (.int .i64 kind):=(cell_of_row _ _ _ _ _ _ HN2.out).trans rfl
      have e1:w2.cell? ⟨wo.heap.size,1,none⟩=some (.int .i64 (level:Int)):=(cell_of_row _ _ _ _ _ _ HN2.out).trans rfl
      clear hb2 d0 d1 d2 d3 r5
      go_wp2
      go_roundw
      case rel=>exact⟨k+1,by omega,by go_num,by rw [HST.out,HZ.out];exact HVL2.out,hbel2⟩
      case measure=>simp [intOf];omega
  ·obtain rfl:k=acts.length:=by omega
   have hkc:decide ((acts.length:Int)<(acts.length:Int))=false:=by simp
   obtain⟨ao,cap,hvv⟩:=HVL.out.shape
   subst hvv
   go_wp2
   go_ret
   exact⟨_,rfl,HVL.out,hbel⟩
theorem rpoll_no (c:Cfg) (v:CfgV) (rv av:Value) (g:Nat) (level:Int) (w:World) (hbox:RBox w g c v rv av) (hlv:okL c.labels level=false) :
  Calls Tryz.prog 140 #[.pointer (some ⟨g,0,none⟩),.int .i64 level] w fun e w'=>e=.returned (.tuple #[.slice none 0 0,.int .i64 6])∧Below w.heap.size w w':=by
 have HLB:=hide (fun w'=>rlabel_any c v level w')
 obtain⟨q0,q1,q2,q3⟩:=hbox.cells
 rw [hlv] at HLB
 unfold cfgCells at HLB
 clear hlv hbox
 go_enter Tryz.func140,Tryz.ntmps140
 go_wp2_with fail
 refine (HLB.out _).mono ?_
 rintro e w1 ⟨rfl,hb1⟩
 go_wp2
 go_ret2
 exact⟨rfl,hb1⟩
theorem rpoll_ok (w0 w:World) (g:Nat) (c:Cfg) (v:CfgV) (rows:List (RC × Value)) (acts:List RA) (rv av:Value) (level:Nat) (hdoc:RDocO w0 w g c v rows acts rv av) (hok:RDocOk c rows) (hlv:okL c.labels level=true) (hra:∀ a,a ∈ acts→RAOk c a) (hal:acts.length≤4000000000000) :
  Calls Tryz.prog 140 #[.pointer (some ⟨g,0,none⟩),.int .i64 level] w
   fun e w'=>∃ vl av',e=.returned (.tuple #[vl,.int .i64 0])∧OwnL 100 2 noV w' w.heap.size vl (waitsTo c acts level acts.length)∧RDocO w0 w' g c v rows (acts++[⟨5,level,0,0⟩]) rv av'∧Only (fun k=>∃ s,blkOf' g rv av rows s=some k) w w'∧(∀ s b,blkOf' g rv av' rows s=some b→(∃ s,blkOf' g rv av rows s=some b)∨w.heap.size≤b)∧(∀ s b,blkOf' g rv av' rows s=some b→vl.ownBlock=some b→False):=by
 obtain⟨_,_,_,_,hn,_,_⟩:=labels_of hok.labels
 obtain⟨lv,hlv1,hlv2⟩:=okL_nat' hn hlv
 obtain rfl:level=lv:=by omega
 have HLB:=hide (fun w'=>rlabel_any c v level w')
 have HWA:=hide (fun (w':World) (hb:Below w.heap.size w w')=>rwaits_any w0 w' g c v rows acts rv av level (hdoc.drop hb) hok hlv2 hra hal)
 have HDOC:=hide hdoc
 obtain⟨q0,q1,q2,q3⟩:=hdoc.box.cells
 rw [hlv] at HLB
 unfold cfgCells at HLB
 clear hlv hdoc hok hn hlv1 hra
 go_enter Tryz.func140,Tryz.ntmps140
 go_wp2_with fail
 refine (HLB.out _).mono ?_
 rintro e w1 ⟨rfl,hb1⟩
 go_wp2_with fail
 refine (HWA.out _ hb1).mono ?_
 rintro e w3 ⟨vl,rfl,hvl,hb3⟩
 have hbw:=hb1.trans (hb3.mono hb1.size)
 have hsz1:=hb1.size
 have HD3:=hide (HDOC.out.drop hbw)
 obtain⟨vao,vcap,hvv⟩:=hvl.shape
 subst hvv
 have HVL:=hide hvl
 clear hb1 hb3 q0 q1 q2 q3 hvl
 have t5:=HD3.out.box.acts
 have hgl:=HD3.out.box.lt
 have hbA:Below w3.heap.size w3 (w3.alloc (.cells #[.int .i64 5,.int .i64 level,.int .i64 0,.int .i64 0] 225)):=below_box w3 _
 have HOA:=hide (HD3.out.acts.below hbA)
 have HVA:=hide (HVL.out.below hbA)
 have HNA:=hide (Go.heap_alloc_new w3 (.cells #[.int .i64 5,.int .i64 level,.int .i64 0,.int .i64 0] 225))
 have HAG:=hide (show ∀ b,av.ownBlock=some b→b≠g from fun b hb e=>by subst e;cases HD3.out.parts.apart .box .acts b rfl hb)
 have HAL:=hide (show ∀ b,av.ownBlock=some b→b<w.heap.size from fun b hb=>(HDOC.out.parts.low .acts b hb).2)
 have HBX3:=hide HD3.out.box
 have hB0:=HD3.out.old.size
 have hgw:=HDOC.out.box.lt
 go_wp2_with (at_builtin;refine wpList_push rfl (.tmp 21) (.tmp 24) 151 rfl (.agg #[.int .i64 0,.int .i64 0,.int .i64 0,.int .i64 0]) 32 Tryz.underlying151 Tryz.infoRAct rfl (by decide) rfl HOA.out w3.heap.size 1 ⟨5,level,0,0⟩ rfl 225 (0,0) HNA.out rfl (by intro u hu;simp [actV] at hu;rcases hu with rfl|rfl|rfl <;> rfl) (by omega) (by decide) (by simp;omega) (w3.heap.size+1) (by simp) ?_;intro g6 cap6 w6 hown6 hgrow6 hat6 hlt6;have z5:=(hgrow6.cell_far ⟨g,5,none⟩ (by simp;omega) (fun e=>HAG.out _ e.symm rfl)).trans ((hbA.cell (p:=⟨g,5,none⟩) hgl).trans t5);have z7:w6.frozen? ⟨g,5,none⟩=false:=by (rw [hgrow6.frozen_far ⟨g,5,none⟩ (by simp;omega) (fun e=>HAG.out _ e.symm rfl)];exact frozen_of_row _ _ _ _ _ (row_alloc' HBX3.out)))
 have hat7:av.ownBlock=some g6∨g6=w3.heap.size+1:=hat6
 obtain⟨n1,n2,n3⟩:=actStep HD3.out hbA hown6 hgrow6 (by simpa using hat7) hlt6
 have HO:=hide (Only.of_below (F:=fun k=>∃ s,blkOf' g rv av rows s=some k) hbw)
 have HV6:=hide (HVA.out.kept hgrow6 (fun b h1 h2=>by have:=HAL.out b h2;have:=(HVL.out.lt h1).1;omega))
 have HV7:=hide (HV6.out.kept (grown_setCell w6 ⟨g,5,none⟩ (.slice (some ⟨g6,0,none⟩) (acts.length+1) cap6)) (fun b h1 h2=>by
  have h3:=(HVL.out.lt h1).1
  have h4:g=b:=Option.some.inj h2
  omega))
 have hv8:=fun b (h:(Value.slice vao (waitsTo c acts level acts.length).length vcap).ownBlock=some b)=>HVL.out.lt h
 go_ret2
 refine⟨_,_,rfl,HV7.out.mono hsz1,n1,HO.out.trans n2 (fun b h=>Or.inl h),fun s b hb=>?_,fun s b hb hv=>?_⟩
 ·rcases n3 s b hb with h|h
  ·exact Or.inl h
  ·right;have:=hbw.size;omega
 ·have h9:=hv8 b hv
  cases s with
  | acts=>
   obtain rfl:g6=b:=Option.some.inj hb
   rcases hat7 with h|h
   ·have:=HAL.out _ h;omega
   ·omega
  | box=>have:=(HDOC.out.parts.low .box b hb).2;omega
  | row=>have:=(HDOC.out.parts.low .row b hb).2;omega
  | mk i=>have:=(HDOC.out.parts.low (.mk i) b hb).2;omega
end Go.Proofs.YtgigkiocdiffjaaGreat
namespace Go.Proofs.YtgigkiocdiffjaaGreat
open Go.RowKit Veil
structure Rec where
 who:Int
 cells:Int
 ver:Int
def recV (r:Rec):List Value:=[.int .i64 r.who,.int .i64 r.cells,.int .i64 r.ver]
def logTo (c:Cfg) (acts:List RA) (d:Nat):Nat→List Rec
 | 0=>[]
 | k+1=>match acts[k]? with
  | some a=>bif (a.kind == 4) && (a.target == (d:Int)) then logTo c acts d k++[⟨a.who,a.cells,verTo c acts d (k+1)⟩] else logTo c acts d k
  | none=>logTo c acts d k
theorem logTo_yes {c:Cfg} {acts:List RA} {d k:Nat} {a:RA} (h:acts[k]?=some a) (ha:((a.kind == 4) && (a.target == (d:Int)))=true):logTo c acts d (k+1)=logTo c acts d k++[⟨a.who,a.cells,verTo c acts d (k+1)⟩]:=by
 rw [logTo,h];simp only [ha,cond_true]
theorem logTo_no {c:Cfg} {acts:List RA} {d k:Nat} {a:RA} (h:acts[k]?=some a) (ha:((a.kind == 4) && (a.target == (d:Int)))=false):logTo c acts d (k+1)=logTo c acts d k:=by
 rw [logTo,h];simp only [ha,cond_false]
theorem logTo_length (c:Cfg) (acts:List RA) (d k:Nat):(logTo c acts d k).length≤k:=by
 induction k with
 | zero=>exact Nat.le_refl _
 | succ k ih=>
  rw [logTo]
  split
  ·rename_i a _
   cases ((a.kind == 4) && (a.target == (d:Int)))
   ·simp;omega
   ·simp;omega
  ·omega
theorem Tryz.infoRecord:(Tryz.prog.info? 97).map (fun i=>(i.zero,i.size,i.bytes))=some (some (.agg #[.int .i64 0,.int .i64 0,.int .i64 0]),3,24):=by kernel_rfl
theorem rlog_no (c:Cfg) (v:CfgV) (rv av:Value) (g:Nat) (level:Int) (w:World) (hbox:RBox w g c v rv av) (hlv:okL c.labels level=false) :
  Calls Tryz.prog 139 #[.pointer (some ⟨g,0,none⟩),.int .i64 level] w fun e w'=>e=.returned (.tuple #[.slice none 0 0,.int .i64 6])∧Below w.heap.size w w':=by
 have HLB:=hide (fun w'=>rlabel_any c v level w')
 obtain⟨q0,q1,q2,q3⟩:=hbox.cells
 rw [hlv] at HLB
 unfold cfgCells at HLB
 clear hlv hbox
 go_enter Tryz.func139,Tryz.ntmps139
 go_wp2_with fail
 refine (HLB.out _).mono ?_
 rintro e w1 ⟨rfl,hb1⟩
 go_wp2
 go_ret2
 exact⟨rfl,hb1⟩
theorem rlog_ok (w0 w:World) (g:Nat) (c:Cfg) (v:CfgV) (rows:List (RC × Value)) (acts:List RA) (rv av:Value) (level:Nat) (hdoc:RDocO w0 w g c v rows acts rv av) (hok:RDocOk c rows) (hlv:okL c.labels level=true) (hra:∀ a,a ∈ acts→RAOk c a) (hal:acts.length≤4000000000000) :
  Calls Tryz.prog 139 #[.pointer (some ⟨g,0,none⟩),.int .i64 level] w fun e w'=>∃ vl,e=.returned (.tuple #[vl,.int .i64 0])∧OwnL 97 3 recV w' w.heap.size vl (logTo c acts level acts.length)∧Below w.heap.size w w':=by
 obtain⟨_,_,_,_,hn,_,_⟩:=labels_of hok.labels
 obtain⟨lv,hlv1,hlv2⟩:=okL_nat' hn hlv
 obtain rfl:level=lv:=by omega
 have HLB:=hide (fun w'=>rlabel_any c v level w')
 have HCO:=hide (fun (a:RA) (w':World) (hb:Below w.heap.size w w') (ha:RAOk c a)=>rcounts_any c v rv av g level a w' hok.labels (hdoc.read.cfg.below hb) (hdoc.box.below hb hdoc.box.lt) ha hlv2)
 obtain⟨q0,q1,q2,q3⟩:=hdoc.box.cells
 have HBX:=hide hdoc.box
 have hgl:=hdoc.box.lt
 have HAC:=hide hdoc.acts
 have HRA:=hide hra
 rw [hlv] at HLB
 unfold cfgCells at HLB
 obtain⟨aao,acap,haa⟩:=hdoc.acts.shape
 subst haa
 clear hlv hdoc hok hn hlv1 hlv2 hra
 go_enter Tryz.func139,Tryz.ntmps139
 go_wp2_with fail
 refine (HLB.out _).mono ?_
 rintro e w1 ⟨rfl,hb1⟩
 clear q0 q1 q2 q3
 go_wp2
 go_loopw [6,7,8] (fun vl n i wr=>∃ k:Nat,k≤acts.length∧i=.int .i64 k∧n=.int .i64 (verTo c acts level k)∧OwnL 97 3 recV wr w.heap.size vl (logTo c acts level k)∧Below w.heap.size w wr) (fun _ _ i _=>acts.length-(intOf i).toNat)
 case atStart=>exact⟨0,Nat.zero_le _,rfl,rfl,OwnL.nil _ _ _ _ _,hb1⟩
 case round=>
  clear hb1
  obtain⟨wo,rfl⟩:∃ x,x=wr:=⟨_,rfl⟩
  obtain⟨k,hk,rfl,rfl,hvl,hbel⟩:=hrel
  have HVL:=hide hvl
  clear hvl
  have r5:=(HBX.out.below hbel hgl).acts
  have hle:=verTo_le c acts level k
  by_cases hlt:k<acts.length
  ·obtain⟨ab,ac,hvv,_,hab⟩:=HAC.out.form (by omega)
   simp only [Value.slice.injEq] at hvv
   obtain⟨rfl,_,rfl⟩:=hvv
   have hej:acts[k]?=some acts[k]:=List.getElem?_eq_getElem hlt
   have c0:=HAC.out.cell (show ∀ a,(actV a).length=4 from fun _=>rfl) rfl hej (j:=0) (by omega)
   have c1:=HAC.out.cell (show ∀ a,(actV a).length=4 from fun _=>rfl) rfl hej (j:=1) (by omega)
   have c2:=HAC.out.cell (show ∀ a,(actV a).length=4 from fun _=>rfl) rfl hej (j:=2) (by omega)
   have c3:=HAC.out.cell (show ∀ a,(actV a).length=4 from fun _=>rfl) rfl hej (j:=3) (by omega)
   have HY:=hide (fun h=>verTo_yes (c:=c) (d:=level) hej h)
   have HN:=hide (fun h=>verTo_no (c:=c) (d:=level) hej h)
   have HLY:=hide (fun h=>logTo_yes (c:=c) (d:=level) hej h)
   have HLN:=hide (fun h=>logTo_no (c:=c) (d:=level) hej h)
   have hao:=HRA.out _ (List.getElem_mem hlt)
   have hll:=logTo_length c acts level k
   generalize acts[k]=a at *
   obtain⟨kind,who,target,cells⟩:=a
   simp only at HLY HLN
   have d0:wo.cell? ⟨ab,k*4,none⟩=some (.int .i64 kind):=(hbel.cell (p:=⟨ab,k*4,none⟩) hab).trans c0
   have d1:wo.cell? ⟨ab,k*4+1,none⟩=some (.int .i64 who):=(hbel.cell (p:=⟨ab,k*4+1,none⟩) hab).trans c1
   have d2:wo.cell? ⟨ab,k*4+2,none⟩=some (.int .i64 target):=(hbel.cell (p:=⟨ab,k*4+2,none⟩) hab).trans c2
   have d3:wo.cell? ⟨ab,k*4+3,none⟩=some (.int .i64 cells):=(hbel.cell (p:=⟨ab,k*4+3,none⟩) hab).trans c3
   have hki:(k:Int)<(acts.length:Int):=by omega
   have hbA:Below wo.heap.size wo (wo.alloc (.cells #[.int .i64 kind,.int .i64 who,.int .i64 target,.int .i64 cells] 225)):=below_box wo _
   have hbelA:Below w.heap.size w (wo.alloc (.cells #[.int .i64 kind,.int .i64 who,.int .i64 target,.int .i64 cells] 225)):=hbel.alloc hbel.size _
   have HVLA:=hide (HVL.out.below hbA)
   have HNA:=hide (Go.heap_alloc_new wo (.cells #[.int .i64 kind,.int .i64 who,.int .i64 target,.int .i64 cells] 225))
   have HC1:=hide (HCO.out ⟨kind,who,target,cells⟩ (wo.alloc (.cells #[.int .i64 kind,.int .i64 who,.int .i64 target,.int .i64 cells] 225)) hbelA hao)
   simp only at HC1
   clear c0 c1 c2 c3 hej hao
   go_wp2_with fail
   refine (HC1.out).mono ?_
   rintro e w2 ⟨rfl,hb2⟩
   have hbel2:=hbelA.trans (hb2.mono hbelA.size)
   have HVL2:=hide (HVLA.out.below hb2)
   have HN2:=hide (Below.row hb2 HNA.out (lt_of_row HNA.out))
   have e0:w2.cell? ⟨wo.heap.size,0,none⟩=some (.int .i64 kind):=(cell_of_row _ _ _ _ _ _ HN2.out).trans rfl
   have e1:w2.cell? ⟨wo.heap.size,1,none⟩=some (.int .i64 who):=(cell_of_row _ _ _ _ _ _ HN2.out).trans rfl
   have e2:w2.cell? ⟨wo.heap.size,2,none⟩=some (.int .i64 target):=(cell_of_row _ _ _ _ _ _ HN2.out).trans rfl
   have e3:w2.cell? ⟨wo.heap.size,3,none⟩=some (.int .i64 cells):=(cell_of_row _ _ _ _ _ _ HN2.out).trans rfl
   clear hb2 d0 d1 d2 d3 r5
   obtain⟨vn,hvn,hvn2,hvn3⟩:∃ vn:Nat,verTo c acts level (k+1)=vn∧vn≤k+1∧(countB c ⟨kind,who,target,cells⟩ level=true∧(vn:Int)=(verTo c acts level k:Int)+1∨countB c ⟨kind,who,target,cells⟩ level=false∧vn=verTo c acts level k):=by
    cases hc:countB c ⟨kind,who,target,cells⟩ level
    ·exact⟨_,rfl,verTo_le _ _ _ _,Or.inr ⟨rfl,HN.out hc⟩⟩
    ·exact⟨_,rfl,verTo_le _ _ _ _,Or.inl ⟨rfl,by rw [HY.out hc];omega⟩⟩
   have HVN:=hide hvn
   rw [hvn] at HLY
   clear hvn HY HN
   have hbC:∀ x:Int,Below w2.heap.size w2 (w2.alloc (.cells #[.int .i64 who,.int .i64 cells,.int .i64 x] 97)):=fun x=>below_box w2 _
   have hbelC:∀ x:Int,Below w.heap.size w (w2.alloc (.cells #[.int .i64 who,.int .i64 cells,.int .i64 x] 97)):=fun x=>hbel2.alloc hbel2.size _
   have HVC:=hide (fun x:Int=>HVL2.out.below (hbC x))
   have HNC:=hide (fun x:Int=>Go.heap_alloc_new w2 (.cells #[.int .i64 who,.int .i64 cells,.int .i64 x] 97))
   have HBC:=hide hbelC
   clear hbC hbelC
   have hfour:((kind == 4) && (target == (level:Int)))=true∨(kind == 4)=false∨((kind == 4)=true∧(target == (level:Int))=false):=by
    cases kind == 4
    ·exact Or.inr (Or.inl rfl)
    ·cases target == (level:Int)
     ·exact Or.inr (Or.inr ⟨rfl,rfl⟩)
     ·exact Or.inl rfl
   rcases hvn3 with⟨hc,hv3⟩|⟨hc,hv3⟩
   ·rw [hc]
    have hv3h:=hide hv3
    clear hc hv3
    rcases hfour with h|h|⟨h,h'⟩
    ·have HZ:=hide (HLY.out h)
     obtain⟨h4,h5⟩:(kind == 4)=true∧(target == (level:Int))=true:=by simpa using h
     obtain rfl:kind=4:=by simpa using h4
     obtain rfl:target=(level:Int):=by simpa using h5
     clear h h4 h5
     go_wp2_with (at_builtin;refine wpList_push rfl (.tmp 50) (.tmp 57) 75 rfl (.agg #[.int .i64 0,.int .i64 0,.int .i64 0]) 24 Tryz.underlying75 Tryz.infoRecord rfl (by decide) rfl (HVC.out ((verTo c acts level k:Int)+1)) w2.heap.size 1 ⟨who,cells,((verTo c acts level k:Int)+1)⟩ rfl 97 (0,0) (HNC.out ((verTo c acts level k:Int)+1)) rfl (by intro u hu;simp [recV] at hu;rcases hu with rfl|rfl|rfl <;> rfl) (by omega) (by decide) (HBC.out _).size (w2.heap.size+1) (by simp) ?_;intro g6 cap6 w6 hown6 hgrow6 hat6 hlt6)
     have hb6:=(HBC.out ((verTo c acts level k:Int)+1)).trans (below_of_grown hgrow6 (fun b hb=>((HVC.out ((verTo c acts level k:Int)+1)).lt hb).1) (HBC.out _).size)
     go_roundw
     case rel=>exact⟨k+1,by omega,by go_num,by rw [HVN.out];rw [hv3h.out],by rw [HZ.out,hv3h.out];exact hown6,hb6⟩
     case measure=>simp [intOf];omega
    ·have HZ:=hide (HLN.out (by rw [h];rfl))
     go_wp2
     go_roundw
     case rel=>exact⟨k+1,by omega,by go_num,by rw [HVN.out];rw [hv3h.out],by rw [HZ.out];exact HVL2.out,hbel2⟩
     case measure=>simp [intOf];omega
    ·have HZ:=hide (HLN.out (by rw [h,h'];rfl))
     obtain rfl:kind=4:=by simpa using h
     clear h
     go_wp2
     go_roundw
     case rel=>exact⟨k+1,by omega,by go_num,by rw [HVN.out];rw [hv3h.out],by rw [HZ.out];exact HVL2.out,hbel2⟩
     case measure=>simp [intOf];omega
   ·rw [hc]
    have hv3h:=hide hv3
    clear hc hv3
    rcases hfour with h|h|⟨h,h'⟩
    ·have HZ:=hide (HLY.out h)
     obtain⟨h4,h5⟩:(kind == 4)=true∧(target == (level:Int))=true:=by simpa using h
     obtain rfl:kind=4:=by simpa using h4
     obtain rfl:target=(level:Int):=by simpa using h5
     clear h h4 h5
     go_wp2_with (at_builtin;refine wpList_push rfl (.tmp 50) (.tmp 57) 75 rfl (.agg #[.int .i64 0,.int .i64 0,.int .i64 0]) 24 Tryz.underlying75 Tryz.infoRecord rfl (by decide) rfl (HVC.out (verTo c acts level k)) w2.heap.size 1 ⟨who,cells,(verTo c acts level k)⟩ rfl 97 (0,0) (HNC.out (verTo c acts level k)) rfl (by intro u hu;simp [recV] at hu;rcases hu with rfl|rfl|rfl <;> rfl) (by omega) (by decide) (HBC.out _).size (w2.heap.size+1) (by simp) ?_;intro g6 cap6 w6 hown6 hgrow6 hat6 hlt6)
     have hb6:=(HBC.out (verTo c acts level k)).trans (below_of_grown hgrow6 (fun b hb=>((HVC.out (verTo c acts level k)).lt hb).1) (HBC.out _).size)
     go_roundw
     case rel=>exact⟨k+1,by omega,by go_num,by rw [HVN.out,hv3h.out],by rw [HZ.out,hv3h.out];exact hown6,hb6⟩
     case measure=>simp [intOf];omega
    ·have HZ:=hide (HLN.out (by rw [h];rfl))
     go_wp2
     go_roundw
     case rel=>exact⟨k+1,by omega,by go_num,by rw [HVN.out,hv3h.out],by rw [HZ.out];exact HVL2.out,hbel2⟩
     case measure=>simp [intOf];omega
    ·have HZ:=hide (HLN.out (by rw [h,h'];rfl))
     obtain rfl:kind=4:=by simpa using h
     clear h
     go_wp2
     go_roundw
     case rel=>exact⟨k+1,by omega,by go_num,by rw [HVN.out,hv3h.out],by rw [HZ.out];exact HVL2.out,hbel2⟩
     case measure=>simp [intOf];omega
  ·obtain rfl:k=acts.length:=by omega
   have hkc:decide ((acts.length:Int)<(acts.length:Int))=false:=by simp
   obtain⟨ao,cap,hvv⟩:=HVL.out.shape
   subst hvv
   go_wp2
   go_ret2
   exact⟨_,rfl,HVL.out,hbel⟩
end Go.Proofs.YtgigkiocdiffjaaGreat
