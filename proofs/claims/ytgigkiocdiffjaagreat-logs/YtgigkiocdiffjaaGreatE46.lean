import Derived.Test.YtgigkiocdiffjaaGreatE43
set_option maxRecDepth 100000
set_option maxHeartbeats 16000000
namespace Go.Proofs.YtgigkiocdiffjaaGreat
open Go.RowKit Veil
theorem logged_any (g pd rd:Nat) (level code:Int) (L:List Rec) (cv dv qv sv nv:Value) (S:List Value) (B:Nat) (wi:World) (M:World→Value→Prop) (X:World→Value→Value→Prop)
  (h1:∀ w',Below wi.heap.size wi w'→Calls Tryz.prog 32 #[.pointer (some ⟨pd,0,none⟩),.int .i64 level] w' fun e w''=>∃ ao cap,e=.returned (.tuple #[.slice ao L.length cap,.int .i64 code])∧M w'' (.slice ao L.length cap)∧∀ k,wi.heap.size≤k→k<w'.heap.size→w''.heap[k]?=w'.heap[k]?)
  (h2:∀ w'' vl,M w'' vl→Calls Tryz.prog 139 #[.pointer (some ⟨rd,0,none⟩),.int .i64 level] w'' fun e w3=>∃ kao kcap,e=.returned (.tuple #[.slice kao L.length kcap,.int .i64 code])∧X w3 vl (.slice kao L.length kcap))
  (hX:∀ w3 vl kv,X w3 vl kv→w3.heap[g]?=some (.cells #[cv,dv,qv,sv,nv] 55 (0,0))∧OwnL 75 1 oneV w3 B sv S∧OwnL 97 3 recV w3 B vl L∧SeqV 3 recV w3 kv L∧(∀ b,vl.ownBlock=some b→g≠b∧sv.ownBlock≠some b)∧B≤w3.heap.size∧(code=0∨vl=.slice none 0 0))
  (hLn:L.length≤10000) (hSn:S.length≤5300000000000) (hgs:∀ b,sv.ownBlock=some b→b≠g) :
  Calls Tryz.prog 95 #[.pointer (some ⟨g,0,none⟩),.agg (pairC pd rd),.int .i64 level] wi fun r w'=>r=.returned (.bool true)∧∃ w3 vl kv sv' v1 v2,X w3 vl kv∧ListIs 97 75 3 recV markR (fun x=>#[cv,dv,qv,x,nv]) w3 w' B g sv S vl L.length sv' v1 v2:=by
 have H1:=hide h1
 have H2:=hide h2
 have HX:=hide hX
 have HGS:=hide hgs
 clear h1 h2 hX hgs
 unfold pairC
 have hb0:=below_box wi (.cells #[.pointer (some ⟨pd,0,none⟩),.pointer (some ⟨rd,0,none⟩)] 92)
 have HN0:=hide (Go.heap_alloc_new wi (.cells #[.pointer (some ⟨pd,0,none⟩),.pointer (some ⟨rd,0,none⟩)] 92))
 have nn:∀ (w:World) a n c,(Go.binOp .eql 75 (.slice a n c) (.slice none 0 0)).run Tryz.prog w=.ok (.bool a.isNone) w:=fun w a n c=>Go.Lib.run_eql_slice_nil w 75 97 a n c 0 0 Tryz.underlying75
 go_enter Tryz.func95,Tryz.ntmps95
 go_wp2_with fail
 refine (H1.out _ hb0).mono ?_
 rintro e w1 ⟨ao,lcap,rfl,hM,hkeep⟩
 have HM:=hide hM
 have x1:w1.cell? ⟨wi.heap.size,1,none⟩=some (.pointer (some ⟨rd,0,none⟩)):=(cell_of_row _ _ _ _ _ _ ((hkeep wi.heap.size (Nat.le_refl _) (by simp)).trans HN0.out)).trans rfl
 clear hM hkeep
 go_wp2_with fail
 refine (H2.out _ _ HM.out).mono ?_
 rintro e w ⟨kao,kcap,rfl,hx⟩
 have HXX:=hide hx
 obtain⟨hlaw,hS,hl,hk,hap,hBx,hcd⟩:=HX.out _ _ _ hx
 have HS:=hide hS
 have HLAW:=hide hlaw
 have HL:=hide hl
 have HAP:=hide hap
 have HCD:=hide hcd
 have HKQ:=hide hk
 clear hx hlaw hS hl hk hap hcd x1
 cases ao with
 | none=>
  have hz:L.length=0∧lcap=0:=(own_src2 HL.out).1 rfl
  obtain rfl:L=[]:=List.eq_nil_of_length_eq_zero hz.1
  obtain rfl:lcap=0:=hz.2
  clear HL HAP HCD HKQ hz
  simp only [List.length_nil]
  have HG2:=HGS
  have hB:=hBx
  obtain⟨sao,scap,rfl⟩:=HS.out.shape
  have hgw:=lt_of_row HLAW.out
  have s2:w.cell? ⟨g,3,none⟩=some (.slice sao S.length scap):=(cell_of_row _ _ _ _ _ _ HLAW.out).trans rfl
  have HS2:=hide s2
  have HMK:=hide (fun w'=>mark_record S.length w' (by omega))
  go_wp2
  refine wp_loop_rounds 1 ?_
  rw [rounds_succ]
  go_wp2_with (go_at_call 45;refine (HMK.out _).mono ?_;rintro e w2 ⟨rfl,hb2⟩)
  have hbm:=hb2.alloc hb2.size (.cells #[.int .i64 (-1000-S.length),.int .i64 (-1000-S.length),.int .i64 (-1000-S.length)] 97)
  have HM0:=hide (Go.heap_alloc_new w2 (.cells #[.int .i64 (-1000-S.length),.int .i64 (-1000-S.length),.int .i64 (-1000-S.length)] 97))
  have hs2:=hb2.size
  have hsm:(w2.alloc (.cells #[.int .i64 (-1000-S.length),.int .i64 (-1000-S.length),.int .i64 (-1000-S.length)] 97)).heap.size=w2.heap.size+1:=by simp
  generalize hW:(w2.alloc (.cells #[.int .i64 (-1000-S.length),.int .i64 (-1000-S.length),.int .i64 (-1000-S.length)] 97))=wp at *
  clear hW
  have hBw:B≤wp.heap.size:=by omega
  have hwm:w2.heap.size<wp.heap.size:=by omega
  clear hsm
  have m0:wp.cell? ⟨w2.heap.size,0,none⟩=some (.int .i64 (-1000-S.length)):=(cell_of_row _ _ _ _ _ _ HM0.out).trans rfl
  have m1:wp.cell? ⟨w2.heap.size,1,none⟩=some (.int .i64 (-1000-S.length)):=(cell_of_row _ _ _ _ _ _ HM0.out).trans rfl
  have m2:wp.cell? ⟨w2.heap.size,2,none⟩=some (.int .i64 (-1000-S.length)):=(cell_of_row _ _ _ _ _ _ HM0.out).trans rfl
  refine wp_loop_rounds 1 ?_
  rw [rounds_succ]
  have HN1:=hide (Go.heap_alloc_new wp (.cells #[.int .i64 (-1000-S.length),.int .i64 (-1000-S.length),.int .i64 (-1000-S.length)] 97))
  have HW1:=hide (OwnL.nil 97 3 recV (wp.alloc (.cells #[.int .i64 (-1000-S.length),.int .i64 (-1000-S.length),.int .i64 (-1000-S.length)] 97)) B)
  have HC6:=hide (fun (w6:World) (h:(wp.alloc (.cells #[.int .i64 (-1000-S.length),.int .i64 (-1000-S.length),.int .i64 (-1000-S.length)] 97)).grownBy w6 (Value.slice none 0 0).ownBlock)=>show w6.heap[w2.heap.size]?=some (.cells #[.int .i64 (-1000-S.length),.int .i64 (-1000-S.length),.int .i64 (-1000-S.length)] 97 (0,0)) from (h.block _ (by simp;omega) (by simp [Value.ownBlock])).trans ((Go.heap_alloc_old _ _ (by omega)).trans HM0.out))
  have HOLD:=hide (fun (w6 w8:World) (h:(wp.alloc (.cells #[.int .i64 (-1000-S.length),.int .i64 (-1000-S.length),.int .i64 (-1000-S.length)] 97)).grownBy w6 (Value.slice none 0 0).ownBlock) (k:(w6.alloc (.cells #[.int .i64 (-1000-S.length),.int .i64 (-1000-S.length),.int .i64 (-1000-S.length),.int .i64 (-1000-S.length),.int .i64 (-1000-S.length),.int .i64 (-1000-S.length),.int .i64 (-1000-S.length),.int .i64 (-1000-S.length),.int .i64 (-1000-S.length)] 97)).grownBy w8 (Value.slice none 0 0).ownBlock)=>only_no (Only.of_below hbm) (only_no (Only.of_below (below_box wp _)) (only_no (only_none h) (only_no (Only.of_below (below_box w6 _)) (only_none k)))))
  have HLA:=hide (fun (w8 w9:World) (ho:Only (fun _=>False) w w8) (hg:(w8.alloc (.cells #[.slice none 0 0] 75)).grownBy w9 (Value.slice sao S.length scap).ownBlock)=>show w9.heap[g]?=some (.cells #[cv,dv,qv,.slice sao S.length scap,nv] 55 (0,0)) from (hg.block g (by have:=lt_of_row HLAW.out;have:=ho.size;simp;omega) (fun e=>HG2.out g e.symm rfl)).trans ((Go.heap_alloc_old _ _ (by have:=lt_of_row HLAW.out;have:=ho.size;omega)).trans ((ho.block g (lt_of_row HLAW.out) (fun h=>h)).trans HLAW.out)))
  go_wp2_with (first|((with_reducible (refine at_dst 86 ?_));(refine wpList_both rfl (.tmp 83) (.tmp 85) 75 rfl (.agg #[.int .i64 0,.int .i64 0,.int .i64 0]) 24 Tryz.underlying75 Tryz.infoRecord2 rfl (by decide) rfl HW1.out wp.heap.size 1 1 [markR S.length] rfl (by decide) 1 rfl rfl 97 (0,0) HN1.out recV_len (by intro u hu;simp [recV] at hu;rcases hu with rfl|rfl|rfl <;> rfl) (by decide) (by decide) (by simp;omega) ?_);intro g6 cap6 w6 h61 h62 h63 h64;have n0:w6.cell? ⟨w2.heap.size,0,none⟩=some (.int .i64 (-1000-S.length)):=(cell_of_row _ _ _ _ _ _ (HC6.out w6 h63)).trans rfl;have n1:w6.cell? ⟨w2.heap.size,1,none⟩=some (.int .i64 (-1000-S.length)):=(cell_of_row _ _ _ _ _ _ (HC6.out w6 h63)).trans rfl;have n2:w6.cell? ⟨w2.heap.size,2,none⟩=some (.int .i64 (-1000-S.length)):=(cell_of_row _ _ _ _ _ _ (HC6.out w6 h63)).trans rfl;have H61:=hide h61;have H62:=hide h62;have H63:=hide h63;have H64:=hide h64;clear h61 h62 h63 h64;have HN7:=hide (Go.heap_alloc_new w6 (.cells #[.int .i64 (-1000-S.length),.int .i64 (-1000-S.length),.int .i64 (-1000-S.length),.int .i64 (-1000-S.length),.int .i64 (-1000-S.length),.int .i64 (-1000-S.length),.int .i64 (-1000-S.length),.int .i64 (-1000-S.length),.int .i64 (-1000-S.length)] 97));have HW7:=hide (H62.out.below (below_box w6 (.cells #[.int .i64 (-1000-S.length),.int .i64 (-1000-S.length),.int .i64 (-1000-S.length),.int .i64 (-1000-S.length),.int .i64 (-1000-S.length),.int .i64 (-1000-S.length),.int .i64 (-1000-S.length),.int .i64 (-1000-S.length),.int .i64 (-1000-S.length)] 97)));have hB6:B≤w6.heap.size:=Nat.le_trans hBw (Nat.le_trans (by simp) H63.out.size))|((with_reducible (refine at_dst 92 ?_));(refine wpList_both rfl (.tmp 87) (.tmp 91) 75 rfl (.agg #[.int .i64 0,.int .i64 0,.int .i64 0]) 24 Tryz.underlying75 Tryz.infoRecord2 rfl (by decide) rfl HW7.out w6.heap.size 3 3 [markR S.length,markR S.length,markR S.length] rfl (by decide) 3 rfl rfl 97 (0,0) HN7.out recV_len (by intro u hu;simp [recV] at hu;rcases hu with rfl|rfl|rfl|rfl|rfl|rfl|rfl|rfl|rfl <;> rfl) (by decide) (by decide) (by simp;omega) ?_);intro g8 cap8 w8 h81 h82 h83 h84;have H81:=hide h81;have H82:=hide h82;have H83:=hide h83;have H84:=hide h84;clear h81 h82 h83 h84;have HO8:=hide (HOLD.out w6 w8 H63.out H83.out);have s28:w8.cell? ⟨g,3,none⟩=some (.slice sao S.length scap):=(HO8.out.cellAt (a:=⟨g,3,none⟩) hgw (fun h=>h)).trans HS2.out;go_loud (have HS8:=hide ((HS.out.only HO8.out (fun b hb h=>h)).below (below_box w8 (.cells #[.slice none 0 0] 75))));have HN8:=hide (Go.heap_alloc_new w8 (.cells #[.slice none 0 0] 75));go_loud (have hB8:B≤w8.heap.size:=Nat.le_trans hB6 (Nat.le_trans (by simp) H83.out.size)))|((with_reducible (refine at_dst 100 ?_));(refine wpList_push rfl (.tmp 97) (.tmp 99) 52 rfl (.slice none 0 0) 24 Tryz.underlying52 Tryz.infoRecss rfl (by decide) rfl HS8.out w8.heap.size 1 (.slice none 0 0) rfl 75 (0,0) HN8.out rfl (by intro u hu;simp [oneV] at hu;subst hu;rfl) (by omega) (by decide) (by simp;omega) (w8.heap.size+1) (by simp) ?_);intro g9 cap9 w9 h91 h92 h93 h94;have H91:=hide h91;have H92:=hide h92;have H93:=hide h93;clear h91 h92 h93;have HR9:=hide (HLA.out w8 w9 HO8.out H92.out);have q9:w9.cell? ⟨g,3,none⟩=some (.slice sao S.length scap):=(cell_of_row _ _ _ _ _ _ HR9.out).trans rfl;have f9:w9.frozen? ⟨g,3,none⟩=false:=frozen_of_row _ _ _ _ _ HR9.out;go_loud (have HG9:=hide (show g9≠g from H93.out.elim (fun e=>HG2.out g9 e) (fun e=>by have:=HO8.out.size;omega)));go_loud (have HS9:=hide ((H91.out.setOther (g:=g) (i:=3) (u:=.slice (some ⟨g9,0,none⟩) (S.length+1) cap9) (fun b hb=>by cases hb;exact HG9.out)).below (below_box _ (.cells #[.slice (some ⟨g6,0,none⟩) 1 cap6] 75))));have HN9:=hide (alloc_new_set w9 ⟨g,3,none⟩ (.slice (some ⟨g9,0,none⟩) (S.length+1) cap9) (.cells #[.slice (some ⟨g6,0,none⟩) 1 cap6] 75));go_loud (have hB9:B≤w9.heap.size:=Nat.le_trans hB8 (Nat.le_trans (by simp) H92.out.size)))|((with_reducible (refine at_dst 110 ?_));go_loud (refine wpList_push rfl (.tmp 107) (.tmp 109) 52 rfl (.slice none 0 0) 24 Tryz.underlying52 Tryz.infoRecss rfl (by decide) rfl HS9.out w9.heap.size 1 (.slice (some ⟨g6,0,none⟩) 1 cap6) rfl 75 (0,0) HN9.out rfl (by intro u hu;simp [oneV] at hu;subst hu;rfl) (by simp;omega) (by decide) (by simp [World.setCell];omega) (w9.heap.size+1) (by simp [World.setCell]) ?_);intro g10 cap10 w10 h101 h102 h103 h104;go_loud (have H101:=hide (show OwnL 75 1 oneV w10 B (.slice (some ⟨g10,0,none⟩) (S.length+1+1) cap10) (S++[.slice none 0 0]++[.slice (some ⟨g6,0,none⟩) 1 cap6]) by rw [List.length_append] at h101;exact h101));have H102:=hide h102;have H103:=hide h103;clear h101 h102 h103;go_loud (have HR10:=hide (law_next3 HR9.out (fun b hb=>by cases hb;exact HG9.out) H102.out));have q10:w10.cell? ⟨g,3,none⟩=some (.slice (some ⟨g9,0,none⟩) (S.length+1) cap9):=(cell_of_row _ _ _ _ _ _ HR10.out).trans rfl;have f10:w10.frozen? ⟨g,3,none⟩=false:=frozen_of_row _ _ _ _ _ HR10.out;go_loud (have HG10:=hide (show g10≠g from H103.out.elim (fun e=>by cases e;exact HG9.out) (fun e=>by have:=lt_of_row HR9.out;omega)));go_loud (have HS10:=hide ((H101.out.setOther (g:=g) (i:=3) (u:=.slice (some ⟨g10,0,none⟩) (S.length+1+1) cap10) (fun b hb=>by cases hb;exact HG10.out)).below (below_box _ (.cells #[.slice (some ⟨g8,0,none⟩) 3 cap8] 75))));have HN10:=hide (alloc_new_set w10 ⟨g,3,none⟩ (.slice (some ⟨g10,0,none⟩) (S.length+1+1) cap10) (.cells #[.slice (some ⟨g8,0,none⟩) 3 cap8] 75));go_loud (have hB10:B≤w10.heap.size:=Nat.le_trans hB9 (Nat.le_trans (by simp [World.setCell]) H102.out.size)))|((with_reducible (refine at_dst 120 ?_));go_loud (refine wpList_push rfl (.tmp 117) (.tmp 119) 52 rfl (.slice none 0 0) 24 Tryz.underlying52 Tryz.infoRecss rfl (by decide) rfl HS10.out w10.heap.size 1 (.slice (some ⟨g8,0,none⟩) 3 cap8) rfl 75 (0,0) HN10.out rfl (by intro u hu;simp [oneV] at hu;subst hu;rfl) (by simp;omega) (by decide) (by simp [World.setCell];omega) (w10.heap.size+1) (by simp [World.setCell]) ?_);intro g11 cap11 w11 h111 h112 h113 h114;go_loud (have H111:=hide (show OwnL 75 1 oneV w11 B (.slice (some ⟨g11,0,none⟩) (S.length+1+1+1) cap11) (S++[.slice none 0 0]++[.slice (some ⟨g6,0,none⟩) 1 cap6]++[.slice (some ⟨g8,0,none⟩) 3 cap8]) by rw [List.length_append,List.length_append] at h111;exact h111));have H112:=hide h112;have H113:=hide h113;clear h111 h112 h113;go_loud (have HR11:=hide (law_next3 HR10.out (fun b hb=>by cases hb;exact HG10.out) H112.out));have q11:w11.cell? ⟨g,3,none⟩=some (.slice (some ⟨g10,0,none⟩) (S.length+1+1) cap10):=(cell_of_row _ _ _ _ _ _ HR11.out).trans rfl;have f11:w11.frozen? ⟨g,3,none⟩=false:=frozen_of_row _ _ _ _ _ HR11.out))
  go_ret
  have hs63:=H63.out.size
  have hs83:=H83.out.size
  have hs92:=H92.out.size
  have hs102:=H102.out.size
  have hs112:=H112.out.size
  have e9:(w9.setCell ⟨g,3,none⟩ (.slice (some ⟨g9,0,none⟩) (S.length+1) cap9)).heap.size=w9.heap.size:=by simp [World.setCell]
  have e10:(w10.setCell ⟨g,3,none⟩ (.slice (some ⟨g10,0,none⟩) (S.length+1+1) cap10)).heap.size=w10.heap.size:=by simp [World.setCell]
  have sa:∀ (x:World) (o:Obj),(x.alloc o).heap.size=x.heap.size+1:=fun x o=>by simp
  rw [sa] at hs63 hs83 hs92 hs102 hs112
  rw [e9] at hs102
  rw [e10] at hs112
  have hw8:=HO8.out.size
  have hsv9:(Value.slice sao S.length scap).ownBlock=some g9∨w8.heap.size≤g9:=H93.out.imp id (fun e=>by omega)
  have hsv10:(Value.slice sao S.length scap).ownBlock=some g10∨w8.heap.size≤g10:=H103.out.elim (fun e=>by cases e;exact hsv9) (fun e=>Or.inr (by omega))
  have hsv11:(Value.slice sao S.length scap).ownBlock=some g11∨w8.heap.size≤g11:=H113.out.elim (fun e=>by cases e;exact hsv10) (fun e=>Or.inr (by omega))
  have hg11:g11≠g:=H113.out.elim (fun e=>by cases e;exact HG10.out) (fun e=>by have:=lt_of_row HR10.out;omega)
  have t1:=(Only.of_below (F:=fun b=>b=g∨(Value.slice sao S.length scap).ownBlock=some b) (below_box w8 (.cells #[.slice none 0 0] 75))).trans (only_row H92.out) (fun k e=>Or.inl (Or.inr e))
  have t2:=(t1.setCell (a:=⟨g,3,none⟩) (v:=.slice (some ⟨g9,0,none⟩) (S.length+1) cap9) (Or.inl rfl)).trans (Only.of_below (F:=fun _=>False) (below_box _ (.cells #[.slice (some ⟨g6,0,none⟩) 1 cap6] 75))) (fun _ e=>e.elim)
  have t3:=t2.trans (only_row H102.out) (fun k e=>by cases e;exact hsv9.imp Or.inr id)
  have t4:=(t3.setCell (a:=⟨g,3,none⟩) (v:=.slice (some ⟨g10,0,none⟩) (S.length+1+1) cap10) (Or.inl rfl)).trans (Only.of_below (F:=fun _=>False) (below_box _ (.cells #[.slice (some ⟨g8,0,none⟩) 3 cap8] 75))) (fun _ e=>e.elim)
  have t5:=(t4.trans (only_row H112.out) (fun k e=>by cases e;exact hsv10.imp Or.inr id)).setCell (a:=⟨g,3,none⟩) (v:=.slice (some ⟨g11,0,none⟩) (S.length+1+1+1) cap11) (Or.inl rfl)
  have hwp:w.heap.size≤wp.heap.size:=hbm.size
  have hw8':w.heap.size≤w8.heap.size:=HO8.out.size
  have hsb:∀ b,(Value.slice sao S.length scap).ownBlock=some b→b<w.heap.size:=fun b hb=>(HS.out.lt hb).2
  have h6:wp.heap.size<g6:=H64.out.elim (fun e=>by cases e) (fun e=>by have:=e.1;simp at this;omega)
  have h8:w6.heap.size<g8:=H84.out.elim (fun e=>by cases e) (fun e=>by have:=e.1;simp at this;omega)
  have h68:g6<w8.heap.size:=Nat.lt_of_lt_of_le (H61.out.lt (k:=g6) rfl).2 (by omega)
  have h88:g8<w8.heap.size:=(H81.out.lt (k:=g8) rfl).2
  have l1w8:OwnL 97 3 recV w8 B (.slice (some ⟨g6,0,none⟩) 1 cap6) (List.replicate 1 (markR S.length)):=(H61.out.below (below_box w6 _)).kept H83.out (fun k _ hk'=>by cases hk')
  have far:∀ b,w.heap.size≤b→¬ (b=g∨(Value.slice sao S.length scap).ownBlock=some b):=fun b hb e=>by
   rcases e with e|e
   ·omega
   ·have:=hsb b e;omega
  refine⟨rfl,w,_,_,.slice (some ⟨g11,0,none⟩) (S.length+1+1+1) cap11,.slice (some ⟨g6,0,none⟩) 1 cap6,.slice (some ⟨g8,0,none⟩) 3 cap8,HXX.out,?_,?_,?_,?_,?_,?_,?_,?_,?_,?_⟩
  ·rw [Go.heap_setCell_same _ _ _ _ _ _ HR11.out];rfl
  ·exact H111.out.setOther (fun b hb=>by cases hb;exact hg11)
  ·exact OwnL.nil _ _ _ _ _
  ·exact l1w8.only t5 (fun b hb=>far b (by cases hb;dsimp only;omega))
  ·exact (show OwnL 97 3 recV w8 B (.slice (some ⟨g8,0,none⟩) 3 cap8) (List.replicate 3 (markR S.length)) from H81.out).only t5 (fun b hb=>far b (by cases hb;dsimp only;omega))
  ·intro b hb;cases hb;exact Or.inr (by dsimp only;omega)
  ·intro b hb;cases hb;exact Or.inr (by dsimp only;omega)
  ·intro b hb;cases hb;exact hsv11.imp id (fun h=>by dsimp only;omega)
  ·intro b hb
   cases hb
   rcases hsv11 with h|h
   ·have hy:=hsb _ h
    refine⟨fun e=>?_,fun e=>?_,fun e=>?_⟩ <;> cases e <;> omega
   ·refine⟨fun e=>?_,fun e=>?_,fun e=>?_⟩ <;> cases e <;> omega
  ·exact (⟨HO8.out.os,HO8.out.tape,HO8.out.output,HO8.out.size,fun k hk _=>HO8.out.block k hk (fun e=>e)⟩:Only _ w w8).trans t5 (fun k e=>Or.inl (Or.inr e))
 | some la=>
  obtain⟨gl,rfl⟩:∃ gl,la=⟨gl,0,none⟩:=by
   rcases HL.out.2 with⟨h,_⟩|⟨gl,_,_,h,_⟩
   ·cases h
   ·exact⟨gl,by simp only [Value.slice.injEq] at h;exact Option.some.inj h.1⟩
  obtain rfl:code=0:=HCD.out.resolve_right (fun h=>by cases h)
  have hg1:g≠gl:=(HAP.out gl rfl).1
  have hg2:∀ b,sv.ownBlock=some b→b≠gl∧b≠g:=fun b hb=>⟨fun e=>(HAP.out gl rfl).2 (by rw [← e];exact hb),HGS.out b hb⟩
  obtain⟨kao',kcap',kb,hkv,hkao,hkc⟩:=HKQ.out
  simp only [Value.slice.injEq] at hkv
  obtain⟨rfl,_,rfl⟩:=hkv
  have HK:=hide hkc
  have HKA:=hide hkao
  clear hkc hkao HAP HGS HKQ HCD
  go_wp2
  go_loopw [11,12] (fun o i wr=>∃ j:Nat,j≤L.length∧o=.bool true∧i=.int .i64 j∧Below w.heap.size w wr) (fun _ i _=>L.length-(intOf i).toNat)
  case atStart=>exact⟨0,Nat.zero_le _,rfl,rfl,Below.refl _ _⟩
  case round=>
   obtain⟨wo,rfl⟩:∃ x,x=wr:=⟨_,rfl⟩
   obtain⟨j,hj,rfl,rfl,hbel⟩:=hrel
   by_cases hlt:j<L.length
   ·have hg:L[j]?=some L[j]:=List.getElem?_eq_getElem hlt
    have HLb:=HL.out.below hbel
    have hgl:gl<wo.heap.size:=(HLb.lt (k:=gl) rfl).2
    have c0:=HLb.cell recV_len rfl hg (j:=0) (by omega)
    have c1:=HLb.cell recV_len rfl hg (j:=1) (by omega)
    have c2:=HLb.cell recV_len rfl hg (j:=2) (by omega)
    obtain⟨rfl,hkb⟩:kao=some ⟨kb,0,none⟩∧kb<w.heap.size:=HKA.out.resolve_left (fun e=>by rw [e] at hlt;simp at hlt)
    have hkb':kb<wo.heap.size:=Nat.lt_of_lt_of_le hkb hbel.size
    have d0:=(hbel.cell (p:=⟨kb,j*3+0,none⟩) hkb).trans (HK.out j _ hg 0 (by omega))
    have d1:=(hbel.cell (p:=⟨kb,j*3+1,none⟩) hkb).trans (HK.out j _ hg 1 (by omega))
    have d2:=(hbel.cell (p:=⟨kb,j*3+2,none⟩) hkb).trans (HK.out j _ hg 2 (by omega))
    generalize L[j]=x at *
    obtain⟨x0,x1,x2⟩:=x
    simp only [recV,Nat.add_zero,List.getElem?_cons_zero,List.getElem?_cons_succ] at c0 c1 c2 d0 d1 d2
    have hji:(j:Int)<(L.length:Int):=by omega
    clear hg HLb
    go_wp2_with fail
    go_quiet (fail)
    go_wp2
    go_roundw
    case rel=>exact⟨j+1,by omega,by simp,by go_num,Below.drawn hbel _⟩
    case measure=>simp [intOf];omega
   ·obtain rfl:j=L.length:=by omega
    have hlen:decide ((L.length:Int)<(L.length:Int))=false:=by simp
    obtain⟨sao,scap,rfl⟩:=HS.out.shape
    have s2:wo.cell? ⟨g,3,none⟩=some (.slice sao S.length scap):=(hbel.cell (p:=⟨g,3,none⟩) (lt_of_row HLAW.out)).trans ((cell_of_row _ _ _ _ _ _ HLAW.out).trans rfl)
    have HMK:=hide (fun w'=>mark_record S.length w' (by omega))
    go_wp2_with (go_at_call 45;refine (HMK.out _).mono ?_;rintro e w2 ⟨rfl,hb2⟩)
    have hbm:=hbel.trans ((hb2.alloc hb2.size (.cells #[.int .i64 (-1000-S.length),.int .i64 (-1000-S.length),.int .i64 (-1000-S.length)] 97)).mono hbel.size)
    have HM0:=hide (Go.heap_alloc_new w2 (.cells #[.int .i64 (-1000-S.length),.int .i64 (-1000-S.length),.int .i64 (-1000-S.length)] 97))
    have hs2:=hb2.size
    have hso:=hbel.size
    have hsm:(w2.alloc (.cells #[.int .i64 (-1000-S.length),.int .i64 (-1000-S.length),.int .i64 (-1000-S.length)] 97)).heap.size=w2.heap.size+1:=by simp
    have hgl:=(HL.out.lt (k:=gl) rfl).2
    generalize hW:(w2.alloc (.cells #[.int .i64 (-1000-S.length),.int .i64 (-1000-S.length),.int .i64 (-1000-S.length)] 97))=W at *
    clear hW
    go_loopw [14] (fun i wr=>∃ k:Nat,k≤L.length∧i=.int .i64 k∧Only (fun b=>b=gl) W wr∧OwnL 97 3 recV wr B (.slice (some ⟨gl,0,none⟩) L.length lcap) (List.replicate k (markR S.length)++L.drop k)) (fun i _=>L.length-(intOf i).toNat)
    case atStart=>exact⟨0,Nat.zero_le _,rfl,Only.refl _ _,by simpa using HL.out.below hbm⟩
    case round=>
     obtain⟨wp,rfl⟩:∃ x,x=wr:=⟨_,rfl⟩
     obtain⟨k,hk,rfl,hon,hown⟩:=hrel
     have HON:=hide hon
     have HOWN:=hide hown
     have hm0:wp.heap[w2.heap.size]?=some (.cells #[.int .i64 (-1000-S.length),.int .i64 (-1000-S.length),.int .i64 (-1000-S.length)] 97 (0,0)):=(hon.block _ (by omega) (by omega)).trans HM0.out
     have m0:wp.cell? ⟨w2.heap.size,0,none⟩=some (.int .i64 (-1000-S.length)):=(cell_of_row _ _ _ _ _ _ hm0).trans rfl
     have m1:wp.cell? ⟨w2.heap.size,1,none⟩=some (.int .i64 (-1000-S.length)):=(cell_of_row _ _ _ _ _ _ hm0).trans rfl
     have m2:wp.cell? ⟨w2.heap.size,2,none⟩=some (.int .i64 (-1000-S.length)):=(cell_of_row _ _ _ _ _ _ hm0).trans rfl
     clear hm0 hon hown
     by_cases hkl:k<L.length
     ·have hki:(k:Int)<(L.length:Int):=by omega
      obtain⟨xs,hxs⟩:∃ xs,xs=List.replicate k (markR S.length)++L.drop k:=⟨_,rfl⟩
      have hxl:k<xs.length:=by rw [hxs];simp;omega
      have hown:=HOWN.out
      rw [← hxs] at hown
      have hg:xs[k]?=some xs[k]:=List.getElem?_eq_getElem hxl
      have c0:=hown.cell recV_len rfl hg (j:=0) (by omega)
      have c1:=hown.cell recV_len rfl hg (j:=1) (by omega)
      have c2:=hown.cell recV_len rfl hg (j:=2) (by omega)
      have f0:=OwnL.thawed hown rfl (k*3)
      have f1:=OwnL.thawed hown rfl (k*3+1)
      have f2:=OwnL.thawed hown rfl (k*3+2)
      generalize xs[k]=x at *
      obtain⟨x0,x1,x2⟩:=x
      simp only [recV,Nat.add_zero,List.getElem?_cons_zero,List.getElem?_cons_succ] at c0 c1 c2
      have HPUT:=hide (hown.put recV_len rfl hxl (markR S.length))
      have HX:=hide hxs
      clear hown hg hxs
      go_wp2
      go_roundw
      case rel=>
       refine⟨k+1,by omega,by go_num,?_,?_⟩
       ·exact ((HON.out.setCell (a:=⟨gl,k*3,none⟩) rfl).setCell (a:=⟨gl,k*3+1,none⟩) rfl).setCell (a:=⟨gl,k*3+2,none⟩) rfl
       ·have:=HPUT.out
        rw [HX.out] at this
        have e:(List.replicate k (markR S.length)++L.drop k).set k (markR S.length)=List.replicate (k+1) (markR S.length)++L.drop (k+1):=mark_set _ _ _ hkl
        rw [e] at this
        exact this
      case measure=>simp [intOf];omega
     ·obtain rfl:k=L.length:=by omega
      have hend:decide ((L.length:Int)<(L.length:Int))=false:=by simp
      have hown:=HOWN.out
      rw [List.drop_length,List.append_nil] at hown
      have HOW:=hide hown
      clear hown HOWN
      have HN1:=hide (Go.heap_alloc_new wp (.cells #[.int .i64 (-1000-S.length),.int .i64 (-1000-S.length),.int .i64 (-1000-S.length)] 97))
      have HW1:=hide (HOW.out.below (below_box wp (.cells #[.int .i64 (-1000-S.length),.int .i64 (-1000-S.length),.int .i64 (-1000-S.length)] 97)))
      have hBw:B≤wp.heap.size:=by have:=(HL.out.lt (k:=gl) rfl).1;have:=HON.out.size;omega
      have hspl:=HON.out.size
      have HMW:=hide (show wp.heap[w2.heap.size]?=some (.cells #[.int .i64 (-1000-S.length),.int .i64 (-1000-S.length),.int .i64 (-1000-S.length)] 97 (0,0)) from (HON.out.block _ (by omega) (by omega)).trans HM0.out)
      have HC6:=hide (fun (w6:World) (h:(wp.alloc (.cells #[.int .i64 (-1000-S.length),.int .i64 (-1000-S.length),.int .i64 (-1000-S.length)] 97)).grownBy w6 (Value.slice (some ⟨gl,0,none⟩) L.length lcap).ownBlock)=>show w6.heap[w2.heap.size]?=some (.cells #[.int .i64 (-1000-S.length),.int .i64 (-1000-S.length),.int .i64 (-1000-S.length)] 97 (0,0)) from (h.block _ (by simp;omega) (by simp [Value.ownBlock];omega)).trans ((Go.heap_alloc_old _ _ (by omega)).trans HMW.out))
      have HG2:=hide hg2
      have HLA:=hide (fun (w8 w9:World) (ho:Only (fun b=>b=gl) w w8) (hg:(w8.alloc (.cells #[.slice (some ⟨gl,0,none⟩) L.length lcap] 75)).grownBy w9 (Value.slice sao S.length scap).ownBlock)=>show w9.heap[g]?=some (.cells #[cv,dv,qv,.slice sao S.length scap,nv] 55 (0,0)) from (hg.block g (by have:=lt_of_row HLAW.out;have:=ho.size;simp;omega) (fun e=>(hg2 g e.symm).2 rfl)).trans ((Go.heap_alloc_old _ _ (by have:=lt_of_row HLAW.out;have:=ho.size;omega)).trans ((ho.block g (lt_of_row HLAW.out) hg1).trans HLAW.out)))
      clear hg2
      have HOLD:=hide (fun (w6 w8:World) (h:(wp.alloc (.cells #[.int .i64 (-1000-S.length),.int .i64 (-1000-S.length),.int .i64 (-1000-S.length)] 97)).grownBy w6 (Value.slice (some ⟨gl,0,none⟩) L.length lcap).ownBlock) (k:(w6.alloc (.cells #[.int .i64 (-1000-S.length),.int .i64 (-1000-S.length),.int .i64 (-1000-S.length),.int .i64 (-1000-S.length),.int .i64 (-1000-S.length),.int .i64 (-1000-S.length),.int .i64 (-1000-S.length),.int .i64 (-1000-S.length),.int .i64 (-1000-S.length)] 97)).grownBy w8 (Value.slice (some ⟨gl,0,none⟩) L.length lcap).ownBlock)=>only_all (Only.of_below hbm) (only_all HON.out (only_all (Only.of_below (below_box wp _)) (only_all (only_grown h) (only_all (Only.of_below (below_box w6 _)) (only_grown k))))))
      have hgw:=lt_of_row HLAW.out
      have HS2:=hide (show w.cell? ⟨g,3,none⟩=some (.slice sao S.length scap) from (cell_of_row _ _ _ _ _ _ HLAW.out).trans rfl)
      go_wp2_with (first|((with_reducible (refine at_dst 86 ?_));(refine wpList_both rfl (.tmp 83) (.tmp 85) 75 rfl (.agg #[.int .i64 0,.int .i64 0,.int .i64 0]) 24 Tryz.underlying75 Tryz.infoRecord2 rfl (by decide) rfl HW1.out wp.heap.size 1 1 [markR S.length] rfl (by decide) (L.length+1) (by rw [List.length_replicate]) rfl 97 (0,0) HN1.out recV_len (by intro u hu;simp [recV] at hu;rcases hu with rfl|rfl|rfl <;> rfl) (by rw [List.length_replicate];omega) (by decide) (by simp;omega) ?_);intro g6 cap6 w6 h61 h62 h63 h64;have n0:w6.cell? ⟨w2.heap.size,0,none⟩=some (.int .i64 (-1000-S.length)):=(cell_of_row _ _ _ _ _ _ (HC6.out w6 h63)).trans rfl;have n1:w6.cell? ⟨w2.heap.size,1,none⟩=some (.int .i64 (-1000-S.length)):=(cell_of_row _ _ _ _ _ _ (HC6.out w6 h63)).trans rfl;have n2:w6.cell? ⟨w2.heap.size,2,none⟩=some (.int .i64 (-1000-S.length)):=(cell_of_row _ _ _ _ _ _ (HC6.out w6 h63)).trans rfl;have H61:=hide h61;have H62:=hide h62;have H63:=hide h63;have H64:=hide h64;clear h61 h62 h63 h64;have HN7:=hide (Go.heap_alloc_new w6 (.cells #[.int .i64 (-1000-S.length),.int .i64 (-1000-S.length),.int .i64 (-1000-S.length),.int .i64 (-1000-S.length),.int .i64 (-1000-S.length),.int .i64 (-1000-S.length),.int .i64 (-1000-S.length),.int .i64 (-1000-S.length),.int .i64 (-1000-S.length)] 97));have HW7:=hide (H62.out.below (below_box w6 (.cells #[.int .i64 (-1000-S.length),.int .i64 (-1000-S.length),.int .i64 (-1000-S.length),.int .i64 (-1000-S.length),.int .i64 (-1000-S.length),.int .i64 (-1000-S.length),.int .i64 (-1000-S.length),.int .i64 (-1000-S.length),.int .i64 (-1000-S.length)] 97)));have hB6:B≤w6.heap.size:=Nat.le_trans hBw (Nat.le_trans (by simp) H63.out.size))|((with_reducible (refine at_dst 92 ?_));(refine wpList_both rfl (.tmp 87) (.tmp 91) 75 rfl (.agg #[.int .i64 0,.int .i64 0,.int .i64 0]) 24 Tryz.underlying75 Tryz.infoRecord2 rfl (by decide) rfl HW7.out w6.heap.size 3 3 [markR S.length,markR S.length,markR S.length] rfl (by decide) (L.length+3) (by rw [List.length_replicate]) rfl 97 (0,0) HN7.out recV_len (by intro u hu;simp [recV] at hu;rcases hu with rfl|rfl|rfl|rfl|rfl|rfl|rfl|rfl|rfl <;> rfl) (by rw [List.length_replicate];omega) (by decide) (by simp;omega) ?_);intro g8 cap8 w8 h81 h82 h83 h84;have H81:=hide h81;have H82:=hide h82;have H83:=hide h83;have H84:=hide h84;clear h81 h82 h83 h84;have HO8:=hide (HOLD.out w6 w8 H63.out H83.out);have s28:w8.cell? ⟨g,3,none⟩=some (.slice sao S.length scap):=(HO8.out.cellAt (a:=⟨g,3,none⟩) hgw hg1).trans HS2.out;go_loud (have HS8:=hide ((HS.out.only HO8.out (fun b hb=>(HG2.out b hb).1)).below (below_box w8 (.cells #[.slice (some ⟨gl,0,none⟩) L.length lcap] 75))));have HN8:=hide (Go.heap_alloc_new w8 (.cells #[.slice (some ⟨gl,0,none⟩) L.length lcap] 75));go_loud (have hB8:B≤w8.heap.size:=Nat.le_trans hB6 (Nat.le_trans (by simp) H83.out.size)))|((with_reducible (refine at_dst 100 ?_));(refine wpList_push rfl (.tmp 97) (.tmp 99) 52 rfl (.slice none 0 0) 24 Tryz.underlying52 Tryz.infoRecss rfl (by decide) rfl HS8.out w8.heap.size 1 (.slice (some ⟨gl,0,none⟩) L.length lcap) rfl 75 (0,0) HN8.out rfl (by intro u hu;simp [oneV] at hu;subst hu;rfl) (by omega) (by decide) (by simp;omega) (w8.heap.size+1) (by simp) ?_);intro g9 cap9 w9 h91 h92 h93 h94;have H91:=hide h91;have H92:=hide h92;have H93:=hide h93;clear h91 h92 h93;have HR9:=hide (HLA.out w8 w9 HO8.out H92.out);have q9:w9.cell? ⟨g,3,none⟩=some (.slice sao S.length scap):=(cell_of_row _ _ _ _ _ _ HR9.out).trans rfl;have f9:w9.frozen? ⟨g,3,none⟩=false:=frozen_of_row _ _ _ _ _ HR9.out;go_loud (have HG9:=hide (show g9≠g from H93.out.elim (fun e=>(HG2.out g9 e).2) (fun e=>by have:=HO8.out.size;omega)));go_loud (have HS9:=hide ((H91.out.setOther (g:=g) (i:=3) (u:=.slice (some ⟨g9,0,none⟩) (S.length+1) cap9) (fun b hb=>by cases hb;exact HG9.out)).below (below_box _ (.cells #[.slice (some ⟨g6,0,none⟩) (L.length+1) cap6] 75))));have HN9:=hide (alloc_new_set w9 ⟨g,3,none⟩ (.slice (some ⟨g9,0,none⟩) (S.length+1) cap9) (.cells #[.slice (some ⟨g6,0,none⟩) (L.length+1) cap6] 75));go_loud (have hB9:B≤w9.heap.size:=Nat.le_trans hB8 (Nat.le_trans (by simp) H92.out.size)))|((with_reducible (refine at_dst 110 ?_));go_loud (refine wpList_push rfl (.tmp 107) (.tmp 109) 52 rfl (.slice none 0 0) 24 Tryz.underlying52 Tryz.infoRecss rfl (by decide) rfl HS9.out w9.heap.size 1 (.slice (some ⟨g6,0,none⟩) (L.length+1) cap6) rfl 75 (0,0) HN9.out rfl (by intro u hu;simp [oneV] at hu;subst hu;rfl) (by simp;omega) (by decide) (by simp [World.setCell];omega) (w9.heap.size+1) (by simp [World.setCell]) ?_);intro g10 cap10 w10 h101 h102 h103 h104;go_loud (have H101:=hide (show OwnL 75 1 oneV w10 B (.slice (some ⟨g10,0,none⟩) (S.length+1+1) cap10) (S++[.slice (some ⟨gl,0,none⟩) L.length lcap]++[.slice (some ⟨g6,0,none⟩) (L.length+1) cap6]) by rw [List.length_append] at h101;exact h101));have H102:=hide h102;have H103:=hide h103;clear h101 h102 h103;go_loud (have HR10:=hide (law_next3 HR9.out (fun b hb=>by cases hb;exact HG9.out) H102.out));have q10:w10.cell? ⟨g,3,none⟩=some (.slice (some ⟨g9,0,none⟩) (S.length+1) cap9):=(cell_of_row _ _ _ _ _ _ HR10.out).trans rfl;have f10:w10.frozen? ⟨g,3,none⟩=false:=frozen_of_row _ _ _ _ _ HR10.out;go_loud (have HG10:=hide (show g10≠g from H103.out.elim (fun e=>by cases e;exact HG9.out) (fun e=>by have:=lt_of_row HR9.out;omega)));go_loud (have HS10:=hide ((H101.out.setOther (g:=g) (i:=3) (u:=.slice (some ⟨g10,0,none⟩) (S.length+1+1) cap10) (fun b hb=>by cases hb;exact HG10.out)).below (below_box _ (.cells #[.slice (some ⟨g8,0,none⟩) (L.length+3) cap8] 75))));have HN10:=hide (alloc_new_set w10 ⟨g,3,none⟩ (.slice (some ⟨g10,0,none⟩) (S.length+1+1) cap10) (.cells #[.slice (some ⟨g8,0,none⟩) (L.length+3) cap8] 75));go_loud (have hB10:B≤w10.heap.size:=Nat.le_trans hB9 (Nat.le_trans (by simp [World.setCell]) H102.out.size)))|((with_reducible (refine at_dst 120 ?_));go_loud (refine wpList_push rfl (.tmp 117) (.tmp 119) 52 rfl (.slice none 0 0) 24 Tryz.underlying52 Tryz.infoRecss rfl (by decide) rfl HS10.out w10.heap.size 1 (.slice (some ⟨g8,0,none⟩) (L.length+3) cap8) rfl 75 (0,0) HN10.out rfl (by intro u hu;simp [oneV] at hu;subst hu;rfl) (by simp;omega) (by decide) (by simp [World.setCell];omega) (w10.heap.size+1) (by simp [World.setCell]) ?_);intro g11 cap11 w11 h111 h112 h113 h114;go_loud (have H111:=hide (show OwnL 75 1 oneV w11 B (.slice (some ⟨g11,0,none⟩) (S.length+1+1+1) cap11) (S++[.slice (some ⟨gl,0,none⟩) L.length lcap]++[.slice (some ⟨g6,0,none⟩) (L.length+1) cap6]++[.slice (some ⟨g8,0,none⟩) (L.length+3) cap8]) by rw [List.length_append,List.length_append] at h111;exact h111));have H112:=hide h112;have H113:=hide h113;clear h111 h112 h113;go_loud (have HR11:=hide (law_next3 HR10.out (fun b hb=>by cases hb;exact HG10.out) H112.out));have q11:w11.cell? ⟨g,3,none⟩=some (.slice (some ⟨g10,0,none⟩) (S.length+1+1) cap10):=(cell_of_row _ _ _ _ _ _ HR11.out).trans rfl;have f11:w11.frozen? ⟨g,3,none⟩=false:=frozen_of_row _ _ _ _ _ HR11.out))
      go_ret
      have hs63:=H63.out.size
      have hs83:=H83.out.size
      have hs92:=H92.out.size
      have hs102:=H102.out.size
      have hs112:=H112.out.size
      have e9:(w9.setCell ⟨g,3,none⟩ (.slice (some ⟨g9,0,none⟩) (S.length+1) cap9)).heap.size=w9.heap.size:=by simp [World.setCell]
      have e10:(w10.setCell ⟨g,3,none⟩ (.slice (some ⟨g10,0,none⟩) (S.length+1+1) cap10)).heap.size=w10.heap.size:=by simp [World.setCell]
      have sa:∀ (x:World) (o:Obj),(x.alloc o).heap.size=x.heap.size+1:=fun x o=>by simp
      rw [sa] at hs63 hs83 hs92 hs102 hs112
      rw [e9] at hs102
      rw [e10] at hs112
      have hw8:=HO8.out.size
      have hsv9:(Value.slice sao S.length scap).ownBlock=some g9∨w8.heap.size≤g9:=H93.out.imp id (fun e=>by omega)
      have hsv10:(Value.slice sao S.length scap).ownBlock=some g10∨w8.heap.size≤g10:=H103.out.elim (fun e=>by cases e;exact hsv9) (fun e=>Or.inr (by omega))
      have hsv11:(Value.slice sao S.length scap).ownBlock=some g11∨w8.heap.size≤g11:=H113.out.elim (fun e=>by cases e;exact hsv10) (fun e=>Or.inr (by omega))
      have hg11:g11≠g:=H113.out.elim (fun e=>by cases e;exact HG10.out) (fun e=>by have:=lt_of_row HR10.out;omega)
      have t1:=(Only.of_below (F:=fun b=>b=g∨(Value.slice sao S.length scap).ownBlock=some b) (below_box w8 (.cells #[.slice (some ⟨gl,0,none⟩) L.length lcap] 75))).trans (only_row H92.out) (fun k e=>Or.inl (Or.inr e))
      have t2:=(t1.setCell (a:=⟨g,3,none⟩) (v:=.slice (some ⟨g9,0,none⟩) (S.length+1) cap9) (Or.inl rfl)).trans (Only.of_below (F:=fun _=>False) (below_box _ (.cells #[.slice (some ⟨g6,0,none⟩) (L.length+1) cap6] 75))) (fun _ e=>e.elim)
      have t3:=t2.trans (only_row H102.out) (fun k e=>by cases e;exact hsv9.imp Or.inr id)
      have t4:=(t3.setCell (a:=⟨g,3,none⟩) (v:=.slice (some ⟨g10,0,none⟩) (S.length+1+1) cap10) (Or.inl rfl)).trans (Only.of_below (F:=fun _=>False) (below_box _ (.cells #[.slice (some ⟨g8,0,none⟩) (L.length+3) cap8] 75))) (fun _ e=>e.elim)
      have t5:=(t4.trans (only_row H112.out) (fun k e=>by cases e;exact hsv10.imp Or.inr id)).setCell (a:=⟨g,3,none⟩) (v:=.slice (some ⟨g11,0,none⟩) (S.length+1+1+1) cap11) (Or.inl rfl)
      have hwp:w.heap.size≤wp.heap.size:=Nat.le_trans hbm.size HON.out.size
      have hw8':w.heap.size≤w8.heap.size:=HO8.out.size
      have hw6':w.heap.size≤w6.heap.size:=by omega
      have hsb:∀ b,(Value.slice sao S.length scap).ownBlock=some b→b<w.heap.size:=fun b hb=>(HS.out.lt hb).2
      have h6:g6=gl∨wp.heap.size<g6:=H64.out.elim (fun e=>by rw [List.length_replicate] at e;cases e;exact Or.inl rfl) (fun e=>Or.inr (by have:=e.1;simp at this;omega))
      have h8:g8=gl∨w6.heap.size<g8:=H84.out.elim (fun e=>by rw [List.length_replicate] at e;cases e;exact Or.inl rfl) (fun e=>Or.inr (by have:=e.1;simp at this;omega))
      have h68:g6<w8.heap.size:=Nat.lt_of_lt_of_le (H61.out.lt (k:=g6) rfl).2 (by omega)
      have h88:g8<w8.heap.size:=(H81.out.lt (k:=g8) rfl).2
      have r1:List.replicate L.length (markR S.length)++[markR S.length]=List.replicate (L.length+1) (markR S.length):=by rw [List.replicate_succ']
      have r3:List.replicate L.length (markR S.length)++[markR S.length,markR S.length,markR S.length]=List.replicate (L.length+3) (markR S.length):=by
       rw [show [markR S.length,markR S.length,markR S.length]=List.replicate 3 (markR S.length) from rfl,List.replicate_append_replicate]
      have l1w8:OwnL 97 3 recV w8 B (.slice (some ⟨g6,0,none⟩) (L.length+1) cap6) (List.replicate (L.length+1) (markR S.length)):=by
       have hA:=H61.out
       rw [r1] at hA
       rcases H84.out with e|⟨_,e⟩
       ·rcases h6 with h6'|h6'
        ·subst h6'
         have e6:=H64.out
         rcases e6 with e6|⟨e6,_⟩
         ·rw [List.length_replicate] at e6 e
          cases e6
          have hC:=H81.out
          cases e
          have:=OwnL.prefix (l:=List.replicate (L.length+1) (markR S.length)) (nw:=[markR S.length,markR S.length]) (g:=g6) (cap:=lcap) recV_len (w:=w8) (B:=B) (e:=97) (by
           have r5:List.replicate (L.length+1) (markR S.length)++[markR S.length,markR S.length]=List.replicate (L.length+3) (markR S.length):=by
            rw [show [markR S.length,markR S.length]=List.replicate 2 (markR S.length) from rfl,List.replicate_append_replicate]
           rw [r5,List.length_replicate]
           rw [r3] at hC
           exact hC)
          rw [List.length_replicate] at this
          exact this
         ·simp at e6;omega
        ·exact ((hA.below (below_box w6 _)).kept H83.out (fun k hk hk'=>by cases hk;cases hk';omega))
       ·exact (hA.below (below_box w6 _)).kept e (fun k _ hk'=>by cases hk')
      have far:∀ b,(b=gl∨w.heap.size≤b)→¬ (b=g∨(Value.slice sao S.length scap).ownBlock=some b):=fun b hb e=>by
       rcases e with e|e
       ·rcases hb with hb|hb
        ·exact hg1 (e.symm.trans hb)
        ·omega
       ·rcases hb with hb|hb
        ·exact (HG2.out b e).1 hb
        ·have:=hsb b e;omega
      refine⟨rfl,w,_,_,.slice (some ⟨g11,0,none⟩) (S.length+1+1+1) cap11,.slice (some ⟨g6,0,none⟩) (L.length+1) cap6,.slice (some ⟨g8,0,none⟩) (L.length+3) cap8,HXX.out,?_,?_,?_,?_,?_,?_,?_,?_,?_,?_⟩
      ·rw [Go.heap_setCell_same _ _ _ _ _ _ HR11.out];rfl
      ·exact H111.out.setOther (fun b hb=>by cases hb;exact hg11)
      ·have:=H82.out.only t5 (fun b hb=>far b (by cases hb;exact Or.inl rfl))
       exact this
      ·exact l1w8.only t5 (fun b hb=>far b (by cases hb;exact h6.imp id (fun h=>by (try dsimp only);omega)))
      ·have:=H81.out
       rw [r3] at this
       exact this.only t5 (fun b hb=>far b (by cases hb;exact h8.imp id (fun h=>by (try dsimp only);omega)))
      ·intro b hb;cases hb;exact h6.imp (fun h=>by rw [h];rfl) (fun h=>by (try dsimp only);omega)
      ·intro b hb;cases hb;exact h8.imp (fun h=>by rw [h];rfl) (fun h=>by (try dsimp only);omega)
      ·intro b hb;cases hb;exact hsv11.imp id (fun h=>by (try dsimp only);omega)
      ·intro b hb
       cases hb
       rcases hsv11 with h|h
       ·have hx:=HG2.out _ h
        have hy:=hsb _ h
        refine⟨fun e=>?_,fun e=>?_,fun e=>?_⟩ <;> cases e
        ·exact hx.1 rfl
        ·rcases h6 with h6|h6
         ·exact hx.1 h6
         ·omega
        ·rcases h8 with h8|h8
         ·exact hx.1 h8
         ·omega
       ·refine⟨fun e=>?_,fun e=>?_,fun e=>?_⟩ <;> cases e <;> omega
      ·exact (⟨HO8.out.os,HO8.out.tape,HO8.out.output,HO8.out.size,fun k hk hn=>HO8.out.block k hk (fun e=>hn (Or.inl (by rw [e];rfl)))⟩:Only _ w w8).trans t5 (fun k e=>Or.inl (Or.inr e))
end Go.Proofs.YtgigkiocdiffjaaGreat
