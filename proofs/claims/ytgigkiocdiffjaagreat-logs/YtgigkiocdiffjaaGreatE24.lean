import Derived.Test.YtgigkiocdiffjaaGreatE02
import Derived.Test.YtgigkiocdiffjaaGreatE01
import Derived.WalkSpells
import Derived.Outline
import Derived.Deep.QuietTactic
import Derived.BigQuiet
import Derived.WalkLawsBesides
set_option maxRecDepth 100000
set_option maxHeartbeats 16000000
namespace Go.Proofs.YtgigkiocdiffjaaGreat
open Go.RowKit Veil
theorem Tryz.sizeEdge:(Tryz.prog.info? 169).map (·.size)=some 2:=by kernel_rfl
theorem Tryz.sizeRule:(Tryz.prog.info? 163).map (·.size)=some 2:=by kernel_rfl
theorem Tryz.sizeGrant:(Tryz.prog.info? 166).map (·.size)=some 2:=by kernel_rfl
def beyondR:ByteArray × Int:=(⟨#[98,101,121,111,110,100]⟩,77)
structure LentAt (w:World) (c:Cfg) (g1 g2 g3:Nat):Prop where
 edges:RowAt xE yE w g1 169 (c.edges++pad 8 (77,77))
 rules:RowAt xR yR w g2 163 (c.rules++pad 8 beyondR)
 grants:RowAt xE yE w g3 166 (c.grants++pad 8 (77,77))
def lentV (c:Cfg) (v:CfgV) (g1 g2 g3:Nat):CfgV:=
 { ea:=v.ea.map fun _=>⟨g1,0,none⟩,ec:=if v.ea.isSome then c.edges.length+8 else 0,ra:=v.ra.map fun _=>⟨g2,0,none⟩,rc:=if v.ra.isSome then c.rules.length+8 else 0,ga:=v.ga.map fun _=>⟨g3,0,none⟩,gc:=if v.ga.isSome then c.grants.length+8 else 0 }
theorem LentAt.below {w w':World} {c:Cfg} {g1 g2 g3 B:Nat} (h:LentAt w c g1 g2 g3) (hb:Below B w w') (h1:g1<B) (h2:g2<B) (h3:g3<B):LentAt w' c g1 g2 g3:=
 ⟨h.edges.below hb h1,h.rules.below hb h2,h.grants.below hb h3⟩
theorem LentAt.cfg {w:World} {c:Cfg} {g1 g2 g3:Nat} {v:CfgV} (h:LentAt w c g1 g2 g3) (hn:CfgNil c v):CfgAt w c (lentV c v g1 g2 g3):=by
 refine⟨?_,?_,?_⟩
 ·cases hv:v.ea with
  | none=>exact Or.inl (List.eq_nil_of_length_eq_zero (hn.edges hv).1)
  | some a=>simpa [lentV,hv] using h.edges.seq
 ·cases hv:v.ra with
  | none=>exact Or.inl (List.eq_nil_of_length_eq_zero (hn.rules hv).1)
  | some a=>simpa [lentV,hv] using h.rules.seq
 ·cases hv:v.ga with
  | none=>exact Or.inl (List.eq_nil_of_length_eq_zero (hn.grants hv).1)
  | some a=>simpa [lentV,hv] using h.grants.seq
structure LentMid (w:World) (B:Nat) (c:Cfg) (v:CfgV) (k:Nat):Prop where
 cfg:w.heap[B]?=some (.cells (cfgCells c v) 31 (0,0))
 res:w.heap[B+1]?=some (.cells #[.int .i64 0,.slice none 0 0,.slice none 0 0,.slice none 0 0] 31 (0,0))
 edges:RowAt xE yE w (B+2) 169 (c.edges++(pad k (77,77)++pad (8-k) (0,0)))
 rules:RowAt xR yR w (B+3) 163 (c.rules++(pad k beyondR++pad (8-k) (ByteArray.empty,0)))
 grants:RowAt xE yE w (B+4) 166 (c.grants++(pad k (77,77)++pad (8-k) (0,0)))
theorem pad_get {α:Type} (l:List α) (k:Nat) (a z:α) (h:k<8):(l++(pad k a++pad (8-k) z))[l.length+k]?=some z:=by
 rw [List.getElem?_append_right (by omega),List.getElem?_append_right (by rw [pad_length];omega),pad_length,show l.length+k-l.length-k=0 by omega]
 unfold pad
 rw [List.getElem?_replicate,if_pos (by omega)]
theorem pad_set {α:Type} (l:List α) (k:Nat) (a z:α) (h:k<8):(l++(pad k a++pad (8-k) z)).set (l.length+k) a=l++(pad (k+1) a++pad (8-(k+1)) z):=by
 rw [List.set_append_right _ _ (by omega),List.set_append_right _ _ (by rw [pad_length];omega),pad_length]
 have e1:l.length+k-l.length-k=0:=by omega
 rw [e1]
 unfold pad
 have e2:8-k=(8-(k+1))+1:=by omega
 rw [e2,List.replicate_succ,List.set_cons_zero,List.replicate_succ' (n:=k)]
 simp
theorem pad_length_all {α:Type} (l:List α) (k:Nat) (a z:α) (h:k<8):l.length+k<(l++(pad k a++pad (8-k) z)).length:=by
 simp [pad_length];omega
theorem other2 {w:World} {g k i j:Nat} {a b:Value} {o:Obj} (h:w.heap[k]?=some o) (hk:k≠g):((w.setCell ⟨g,i,none⟩ a).setCell ⟨g,j,none⟩ b).heap[k]?=some o:=by
 rw [heap_setCell_other _ _ _ _ hk,heap_setCell_other _ _ _ _ hk];exact h
def lentRound (w:World) (B:Nat) (c:Cfg) (k:Nat):World:=
 (((((w.setCell ⟨B+2,(c.edges.length+k)*2,none⟩ (.int .i64 77)).setCell ⟨B+2,(c.edges.length+k)*2+1,none⟩ (.int .i64 77)).setCell ⟨B+3,(c.rules.length+k)*2,none⟩ (.string ⟨#[98,101,121,111,110,100]⟩)).setCell ⟨B+3,(c.rules.length+k)*2+1,none⟩ (.int .i64 77)).setCell ⟨B+4,(c.grants.length+k)*2,none⟩ (.int .i64 77)).setCell ⟨B+4,(c.grants.length+k)*2+1,none⟩ (.int .i64 77)
theorem LentMid.round {w:World} {B:Nat} {c:Cfg} {v:CfgV} {k:Nat} (h:LentMid w B c v k) (hk:k<8):LentMid (lentRound w B c k) B c v (k+1):=by
 unfold lentRound
 refine⟨?_,?_,?_,?_,?_⟩
 ·exact other2 (other2 (other2 h.cfg (by omega)) (by omega)) (by omega)
 ·exact other2 (other2 (other2 h.res (by omega)) (by omega)) (by omega)
 ·have:=h.edges.store (i:=c.edges.length+k) (77,77) (pad_length_all _ _ _ _ hk)
  rw [pad_set _ _ _ _ hk] at this
  exact other2 (other2 this (by omega)) (by omega)
 ·have h1:RowAt xR yR ((w.setCell ⟨B+2,(c.edges.length+k)*2,none⟩ (.int .i64 77)).setCell ⟨B+2,(c.edges.length+k)*2+1,none⟩ (.int .i64 77)) (B+3) 163 (c.rules++(pad k beyondR++pad (8-k) (ByteArray.empty,0))):=other2 h.rules (by omega)
  have:=h1.store (i:=c.rules.length+k) beyondR (pad_length_all _ _ _ _ hk)
  rw [pad_set _ _ _ _ hk] at this
  exact other2 this (by omega)
 ·have h1:RowAt xE yE ((((w.setCell ⟨B+2,(c.edges.length+k)*2,none⟩ (.int .i64 77)).setCell ⟨B+2,(c.edges.length+k)*2+1,none⟩ (.int .i64 77)).setCell ⟨B+3,(c.rules.length+k)*2,none⟩ (.string ⟨#[98,101,121,111,110,100]⟩)).setCell ⟨B+3,(c.rules.length+k)*2+1,none⟩ (.int .i64 77)) (B+4) 166 (c.grants++(pad k (77,77)++pad (8-k) (0,0))):=other2 (other2 h.grants (by omega)) (by omega)
  have:=h1.store (i:=c.grants.length+k) (77,77) (pad_length_all _ _ _ _ hk)
  rw [pad_set _ _ _ _ hk] at this
  exact this
theorem lentRound_below {w0 w:World} {B:Nat} (c:Cfg) (k:Nat) (h:Below B w0 w):Below B w0 (lentRound w B c k):=
 (((((h.setCell (by dsimp only;omega) _).setCell (by dsimp only;omega) _).setCell (by dsimp only;omega) _).setCell (by dsimp only;omega) _).setCell (by dsimp only;omega) _).setCell (by dsimp only;omega) _
theorem pad_done {α:Type} (l:List α) (a z:α):l++(pad 8 a++pad (8-8) z)=l++pad 8 a:=by simp [pad]
theorem LentMid.done {w:World} {B:Nat} {c:Cfg} {v:CfgV} (h:LentMid w B c v 8):LentAt w c (B+2) (B+3) (B+4):=by
 have h1:=h.edges
 have h2:=h.rules
 have h3:=h.grants
 rw [pad_done] at h1 h2 h3
 exact⟨h1,h2,h3⟩
theorem LentAt.other {w:World} {c:Cfg} {g1 g2 g3 g j:Nat} {x:Value} (h:LentAt w c g1 g2 g3) (k1:g1≠g) (k2:g2≠g) (k3:g3≠g):LentAt (w.setCell ⟨g,j,none⟩ x) c g1 g2 g3:=
 ⟨row_other h.edges k1,row_other h.rules k2,row_other h.grants k3⟩
def ifV (a:Option Addr) (b:Addr) (n m c:Nat):Value:=if a.isSome=true then .slice (some b) n m else .slice a n c
theorem ifV_eq {a:Option Addr} {n c m:Nat} {b:Addr} (h0:a=none→n=0∧c=0):ifV a b n m c=.slice (a.map fun _=>b) n (if a.isSome then m else 0):=by
 unfold ifV
 cases a with
 | none=>simp [(h0 rfl).2]
 | some a=>simp
theorem ret_cfg {L:Int} {x1 x2 x3 y1 y2 y3:Value} (h1:x1=y1) (h2:x2=y2) (h3:x3=y3):Ending.returned (.agg #[.int .i64 L,x1,x2,x3])=.returned (.agg #[.int .i64 L,y1,y2,y3]):=by rw [h1,h2,h3]
theorem lent_any (c:Cfg) (v:CfgV) (w:World) (hok:CfgOk c) (hat:CfgAt w c v) (hnil:CfgNil c v) :
  Calls Tryz.prog 80 #[.agg (cfgCells c v)] w fun e w'=>∃ g1 g2 g3,e=.returned (.agg (cfgCells c (lentV c v g1 g2 g3)))∧LentAt w' c g1 g2 g3∧w.heap.size≤g1∧g1<g2∧g2<g3∧Below w.heap.size w w':=by
 obtain⟨L,E,R,G⟩:=c
 obtain⟨ea,ec,ra,rc,ga,gc⟩:=v
 obtain⟨k1,k2,k3,k4⟩:=hok
 obtain⟨a1,a2,a3⟩:=hat
 simp only at k1 k2 k3 k4 a1 a2 a3
 have A1:=hide a1
 have A2:=hide a2
 have A3:=hide a3
 have HN:=hide hnil
 clear a1 a2 a3 hnil k4
 have m1:∀ w,(Instr.makeSlice 27 (.int .i64 ((E.length:Int)+8)) (.int .i64 ((E.length:Int)+8))).run Tryz.prog w=.ok (.slice (some ⟨w.heap.size,0,none⟩) (E.length+8) (E.length+8)) (w.alloc (.cells (two xE yE (List.replicate (E.length+8) (0,0))).toArray 169)):=fun w=>run_make_two xE yE (0,0) 27 169 16 Tryz.underlying27 Tryz.infoEdge (E.length+8) (by omega) (by omega) w
 have m2:∀ w,(Instr.makeSlice 28 (.int .i64 ((R.length:Int)+8)) (.int .i64 ((R.length:Int)+8))).run Tryz.prog w=.ok (.slice (some ⟨w.heap.size,0,none⟩) (R.length+8) (R.length+8)) (w.alloc (.cells (two xR yR (List.replicate (R.length+8) (ByteArray.empty,0))).toArray 163)):=fun w=>run_make_two xR yR (ByteArray.empty,0) 28 163 24 Tryz.underlying28 Tryz.infoRule (R.length+8) (by omega) (by omega) w
 have m3:∀ w,(Instr.makeSlice 29 (.int .i64 ((G.length:Int)+8)) (.int .i64 ((G.length:Int)+8))).run Tryz.prog w=.ok (.slice (some ⟨w.heap.size,0,none⟩) (G.length+8) (G.length+8)) (w.alloc (.cells (two xE yE (List.replicate (G.length+8) (0,0))).toArray 166)):=fun w=>run_make_two xE yE (0,0) 29 166 16 Tryz.underlying29 Tryz.infoGrant (G.length+8) (by omega) (by omega) w
 unfold cfgCells
 go_enter Tryz.func80,Tryz.ntmps80
 go_wp2_with (refine wpList_copy_two (x:=xE) (y:=yE) rfl (.tmp 16) (.tmp 18) 27 rfl 169 Tryz.underlying27 Tryz.sizeEdge (w.heap.size+2) (E.length+8) 8 ea ec E (0,0) rfl rfl rfl ?r1 ?s1 one_E ?_)
 case r1=>exact alloc3_2 _ _ _ _
 case s1=>exact A1.out.below ((((Below.refl _ _).alloc (Nat.le_refl _) _).alloc (by simp) _).alloc (by simp;omega) _)
 intro w1 r1 o1
 have b0:=hide (o1.row (by omega) (alloc3_0 _ _ _ _))
 have b1:=hide (o1.row (by omega) (alloc3_1 _ _ _ _))
 have s1:w1.heap.size=w.heap.size+3:=by rw [o1.size];simp
 have hb1:Below w.heap.size w w1:=((((Below.refl _ _).alloc (Nat.le_refl _) _).alloc (by simp) _).alloc (by simp;omega) _).trans (o1.below (by omega))
 have R1:=hide r1
 have q1:w1.cell? ⟨w.heap.size,1,none⟩=some (.slice ea E.length ec):=by rw [cell_of_row _ _ _ _ _ _ b0.out];rfl
 have q2:w1.cell? ⟨w.heap.size,2,none⟩=some (.slice ra R.length rc):=by rw [cell_of_row _ _ _ _ _ _ b0.out];rfl
 have q3:w1.cell? ⟨w.heap.size,3,none⟩=some (.slice ga G.length gc):=by rw [cell_of_row _ _ _ _ _ _ b0.out];rfl
 clear o1 r1
 go_wp2_with (refine wpList_copy_two (x:=xR) (y:=yR) rfl (.tmp 26) (.tmp 28) 28 rfl 163 Tryz.underlying28 Tryz.sizeRule (w.heap.size+3) (R.length+8) 8 ra rc R (ByteArray.empty,0) rfl rfl rfl ?r2 ?s2 one_R ?_)
 case r2=>
  have:=Go.heap_alloc_new w1 (.cells (two xR yR (List.replicate (R.length+8) (ByteArray.empty,0))).toArray 163)
  rw [s1] at this;exact this
 case s2=>exact A2.out.below (hb1.alloc (by omega) _)
 intro w2 r2 o2
 have b0':=hide (o2.row (by omega) (row_alloc' b0.out))
 have b1':=hide (o2.row (by omega) (row_alloc' b1.out))
 have R1':Hid (RowAt xE yE w2 (w.heap.size+2) 169 (E++pad 8 (0,0))):=o2.row (by omega) (row_alloc' R1.out)
 have s2:w2.heap.size=w.heap.size+4:=by rw [o2.size];simp [s1]
 have hb2:Below w.heap.size w w2:=(hb1.alloc (by omega) _).trans (o2.below (by omega))
 have R2:=hide r2
 have q3':w2.cell? ⟨w.heap.size,3,none⟩=some (.slice ga G.length gc):=by rw [cell_of_row _ _ _ _ _ _ b0'.out];rfl
 clear o2 r2 q1 q2 q3 b0 b1 R1 s1 hb1 m1 m2
 go_wp2_with (refine wpList_copy_two (x:=xE) (y:=yE) rfl (.tmp 36) (.tmp 38) 29 rfl 166 Tryz.underlying29 Tryz.sizeGrant (w.heap.size+4) (G.length+8) 8 ga gc G (0,0) rfl rfl rfl ?r3 ?s3 one_E ?_)
 case r3=>
  have:=Go.heap_alloc_new w2 (.cells (two xE yE (List.replicate (G.length+8) (0,0))).toArray 166)
  rw [s2] at this;exact this
 case s3=>exact A3.out.below (hb2.alloc (by omega) _)
 intro w3 r3 o3
 have hm:LentMid w3 w.heap.size ⟨L,E,R,G⟩ ⟨ea,ec,ra,rc,ga,gc⟩ 0:=
  ⟨o3.row (by omega) (row_alloc' b0'.out),o3.row (by omega) (row_alloc' b1'.out),o3.row (by omega) (row_alloc' R1'.out),o3.row (by omega) (row_alloc' R2.out),r3⟩
 have hb3:Below w.heap.size w w3:=(hb2.alloc (by omega) _).trans (o3.below (by omega))
 have HM:=hide hm
 clear o3 r3 hm q3' b0' b1' R1' R2 s2 hb2 m3
 go_wp2
 go_loopw [9] (fun i wr=>∃ k:Nat,k≤8∧i=.int .i64 k∧LentMid wr w.heap.size ⟨L,E,R,G⟩ ⟨ea,ec,ra,rc,ga,gc⟩ k∧Below w.heap.size w wr) (fun i _=>8-(intOf i).toNat)
 case atStart=>exact⟨0,Nat.zero_le _,rfl,HM.out,hb3⟩
 case round=>
  obtain⟨k,hk,rfl,hm,hbel⟩:=hrel
  have HK:=hide hm
  by_cases hlt:k<8
  ·obtain⟨e1,e2⟩:=hm.edges.cell (pad_get E k _ _ hlt)
   obtain⟨e3,e4⟩:=hm.rules.cell (pad_get R k _ _ hlt)
   obtain⟨e5,e6⟩:=hm.grants.cell (pad_get G k _ _ hlt)
   have f1:=hm.edges.frozen ((E.length+k)*2)
   have f2:=hm.edges.frozen ((E.length+k)*2+1)
   have f3:=hm.rules.frozen ((R.length+k)*2)
   have f4:=hm.rules.frozen ((R.length+k)*2+1)
   have f5:=hm.grants.frozen ((G.length+k)*2)
   have f6:=hm.grants.frozen ((G.length+k)*2+1)
   clear hm
   go_wp2
   go_roundw
   case rel=>exact⟨k+1,by omega,by go_num,HK.out.round hlt,lentRound_below ⟨L,E,R,G⟩ k hbel⟩
   case measure=>simp [intOf];omega
  ·have:k=8:=by omega
   subst this
   have c0:wr.cell? ⟨w.heap.size,0,none⟩=some (.int .i64 L):=by rw [cell_of_row _ _ _ _ _ _ hm.cfg];rfl
   have c1:wr.cell? ⟨w.heap.size,1,none⟩=some (.slice ea E.length ec):=by rw [cell_of_row _ _ _ _ _ _ hm.cfg];rfl
   have c2:wr.cell? ⟨w.heap.size,2,none⟩=some (.slice ra R.length rc):=by rw [cell_of_row _ _ _ _ _ _ hm.cfg];rfl
   have c3:wr.cell? ⟨w.heap.size,3,none⟩=some (.slice ga G.length gc):=by rw [cell_of_row _ _ _ _ _ _ hm.cfg];rfl
   have d0:wr.cell? ⟨w.heap.size+1,0,none⟩=some (.int .i64 0):=by rw [cell_of_row _ _ _ _ _ _ hm.res];rfl
   have d1:wr.cell? ⟨w.heap.size+1,1,none⟩=some (.slice none 0 0):=by rw [cell_of_row _ _ _ _ _ _ hm.res];rfl
   have d2:wr.cell? ⟨w.heap.size+1,2,none⟩=some (.slice none 0 0):=by rw [cell_of_row _ _ _ _ _ _ hm.res];rfl
   have d3:wr.cell? ⟨w.heap.size+1,3,none⟩=some (.slice none 0 0):=by rw [cell_of_row _ _ _ _ _ _ hm.res];rfl
   have fc:∀ j,wr.frozen? ⟨w.heap.size,j,none⟩=false:=fun j=>frozen_of_row _ _ _ _ _ hm.cfg
   have fd:∀ j,wr.frozen? ⟨w.heap.size+1,j,none⟩=false:=fun j=>frozen_of_row _ _ _ _ _ hm.res
   have n1:∀ (w:World) a n c,(Go.binOp .neq 27 (.slice a n c) (.slice none 0 0)).run Tryz.prog w=.ok (.bool (!a.isNone)) w:=fun w a n c=>Go.run_neq_slice_nil_any w 27 169 a n c 0 0 Tryz.underlying27
   have n2:∀ (w:World) a n c,(Go.binOp .neq 28 (.slice a n c) (.slice none 0 0)).run Tryz.prog w=.ok (.bool (!a.isNone)) w:=fun w a n c=>Go.run_neq_slice_nil_any w 28 163 a n c 0 0 Tryz.underlying28
   have n3:∀ (w:World) a n c,(Go.binOp .neq 29 (.slice a n c) (.slice none 0 0)).run Tryz.prog w=.ok (.bool (!a.isNone)) w:=fun w a n c=>Go.run_neq_slice_nil_any w 29 166 a n c 0 0 Tryz.underlying29
   clear hm
   go_wp2
   all_goals
    refine bodyPost_ret (v:=.agg #[.int .i64 L,ifV ea ⟨w.heap.size+2,0,none⟩ E.length (E.length+8) ec,ifV ra ⟨w.heap.size+3,0,none⟩ R.length (R.length+8) rc,ifV ga ⟨w.heap.size+4,0,none⟩ G.length (G.length+8) gc]) ?_ rfl ?_
    ·simp [results,Tryz.results80,go_sem,ifV, *]
    ·refine⟨w.heap.size+2,w.heap.size+3,w.heap.size+4,ret_cfg (ifV_eq HN.out.edges) (ifV_eq HN.out.rules) (ifV_eq HN.out.grants),?_,by omega,by omega,by omega,?_⟩
     ·repeat (refine LentAt.other ?_ (by omega) (by omega) (by omega))
      exact HK.out.done
     ·repeat (refine Below.setCell ?_ (by dsimp only;omega) _)
      exact hbel
end Go.Proofs.YtgigkiocdiffjaaGreat
namespace Go.Proofs.YtgigkiocdiffjaaGreat
open Go.RowKit Veil
theorem app_get {α:Type} (l:List α) (z:α) (k:Nat) (h:k<l.length+8):∃ a,(l++pad 8 z)[k]?=some a∧(k<l.length→l[k]?=some a)∧(l.length≤k→a=z):=by
 by_cases hk:k<l.length
 ·exact⟨l[k],by rw [List.getElem?_append_left hk];exact List.getElem?_eq_getElem hk,fun _=>List.getElem?_eq_getElem hk,fun h=>absurd hk (by omega)⟩
 ·refine⟨z,?_,fun h=>absurd h hk,fun _=>rfl⟩
  rw [List.getElem?_append_right (by omega)]
  unfold pad
  rw [List.getElem?_replicate,if_pos (by omega)]
theorem wholeE_nil (o:Value) (n c:Nat) (w:World) :
  Calls Tryz.prog 125 #[o,.slice none n c] w fun e w'=>e=.returned (.bool true)∧w=w':=by
 have nn:∀ (w:World) a n c,(Go.binOp .eql 27 (.slice a n c) (.slice none 0 0)).run Tryz.prog w=.ok (.bool a.isNone) w:=fun w a n c=>Go.Lib.run_eql_slice_nil w 27 169 a n c 0 0 Tryz.underlying27
 go_enter Tryz.func125,Tryz.ntmps125
 go_wp2
 go_ret
 exact⟨rfl,rfl⟩
theorem wholeE_some (l:List (Int × Int)) (g:Nat) (a:Addr) (c:Nat) (w:World) (hl:l.length≤8796093022208) (hg:RowAt xE yE w g 169 (l++pad 8 (77,77))) (hs:SeqAt xE yE w (some a) l) :
  Calls Tryz.prog 125 #[.slice (some ⟨g,0,none⟩) l.length (l.length+8),.slice (some a) l.length c] w fun e w'=>e=.returned (.bool true)∧Below w.heap.size w w':=by
 have nn:∀ (w:World) a n c,(Go.binOp .eql 27 (.slice a n c) (.slice none 0 0)).run Tryz.prog w=.ok (.bool a.isNone) w:=fun w a n c=>Go.Lib.run_eql_slice_nil w 27 169 a n c 0 0 Tryz.underlying27
 have HG:=hide hg
 clear hg
 obtain⟨b,off,ha,hblt,hcells⟩:∃ b off,(l=[]∨a=⟨b,off,none⟩)∧(l=[]∨b<w.heap.size)∧∀ i p,l[i]?=some p→w.cell? ⟨b,off+i*2,none⟩=some (xE p)∧w.cell? ⟨b,off+i*2+1,none⟩=some (yE p):=by
  rcases hs with rfl|⟨b,off,h,h1,h2⟩
  ·exact⟨0,0,Or.inl rfl,Or.inl rfl,fun i p h=>by simp at h⟩
  ·exact⟨b,off,Or.inr (Option.some.inj h),Or.inr h1,h2⟩
 clear hs
 have HC:=hide hcells
 clear hcells
 rcases ha with rfl|rfl
 ·go_enter Tryz.func125,Tryz.ntmps125
  go_wp2
  go_loopw [7] (fun i wr=>∃ k:Nat,k≤8∧i=.int .i64 k∧Below w.heap.size w wr) (fun i _=>8-(intOf i).toNat)
  case atStart=>exact⟨0,Nat.zero_le _,rfl,Below.refl _ _⟩
  case round=>
   obtain⟨k,hk,rfl,hbel⟩:=hrel
   by_cases hlt:k<8
   ·obtain⟨p,hp1,hp2,hp3⟩:=app_get ([]:List (Int × Int)) (77,77) k (by simpa using hlt)
    obtain rfl:=hp3 (by simp)
    obtain⟨g1,g2⟩:=(HG.out.below hbel HG.out.lt).cell hp1
    have hgl:g<wr.heap.size:=Nat.lt_of_lt_of_le HG.out.lt hbel.size
    simp only [xE,yE] at g1 g2
    clear hp1 hp2 hp3
    go_wp2_with fail
    go_quiet (fail)
    go_wp2
    go_roundw
    case rel=>exact⟨k+1,by omega,by go_num,Below.drawn (hbel.alloc hbel.size _) _⟩
    case measure=>simp [intOf];omega
   ·go_wp2
    go_ret
    exact⟨rfl,hbel⟩
 ·go_enter Tryz.func125,Tryz.ntmps125
  go_wp2
  go_loopw [7] (fun i wr=>∃ k:Nat,k≤l.length+8∧i=.int .i64 k∧Below w.heap.size w wr) (fun i _=>l.length+8-(intOf i).toNat)
  case atStart=>exact⟨0,Nat.zero_le _,rfl,Below.refl _ _⟩
  case round=>
   obtain⟨k,hk,rfl,hbel⟩:=hrel
   by_cases hlt:k<l.length+8
   ·obtain⟨p,hp1,hp2,hp3⟩:=app_get l (77,77) k hlt
    obtain⟨g1,g2⟩:=(HG.out.below hbel HG.out.lt).cell hp1
    have hgl:g<wr.heap.size:=Nat.lt_of_lt_of_le HG.out.lt hbel.size
    by_cases hkl:k<l.length
    ·have hbl:b<w.heap.size:=hblt.resolve_left (fun e=>by rw [e] at hkl;simp at hkl)
     obtain⟨c1,c2⟩:=HC.out k _ (hp2 hkl)
     have d1:wr.cell? ⟨b,off+k*2,none⟩=some (xE p):=(hbel.cell (p:=⟨b,off+k*2,none⟩) hbl).trans c1
     have d2:wr.cell? ⟨b,off+k*2+1,none⟩=some (yE p):=(hbel.cell (p:=⟨b,off+k*2+1,none⟩) hbl).trans c2
     have hbl2:b<wr.heap.size:=Nat.lt_of_lt_of_le hbl hbel.size
     obtain⟨p1,p2⟩:=p
     simp only [xE,yE] at d1 d2 g1 g2
     clear c1 c2 hp1 hp2 hp3 hblt
     go_wp2_with fail
     go_quiet (fail)
     go_wp2
     go_roundw
     case rel=>exact⟨k+1,by omega,by go_num,Below.drawn (hbel.alloc hbel.size _) _⟩
     case measure=>simp [intOf];omega
    ·obtain rfl:=hp3 (by omega)
     simp only [xE,yE] at g1 g2
     clear hp1 hp2 hp3 hblt
     go_wp2_with fail
     go_quiet (fail)
     go_wp2
     go_roundw
     case rel=>exact⟨k+1,by omega,by go_num,Below.drawn (hbel.alloc hbel.size _) _⟩
     case measure=>simp [intOf];omega
   ·go_wp2
    go_ret
    exact⟨rfl,hbel⟩
theorem wholeR_nil (o:Value) (n c:Nat) (w:World) :
  Calls Tryz.prog 126 #[o,.slice none n c] w fun e w'=>e=.returned (.bool true)∧w=w':=by
 have nn:∀ (w:World) a n c,(Go.binOp .eql 28 (.slice a n c) (.slice none 0 0)).run Tryz.prog w=.ok (.bool a.isNone) w:=fun w a n c=>Go.Lib.run_eql_slice_nil w 28 163 a n c 0 0 Tryz.underlying28
 go_enter Tryz.func126,Tryz.ntmps126
 go_wp2
 go_ret
 exact⟨rfl,rfl⟩
theorem wholeR_some (l:List (ByteArray × Int)) (g:Nat) (a:Addr) (c:Nat) (w:World) (hl:l.length≤8796093022208) (hg:RowAt xR yR w g 163 (l++pad 8 beyondR)) (hs:SeqAt xR yR w (some a) l) :
  Calls Tryz.prog 126 #[.slice (some ⟨g,0,none⟩) l.length (l.length+8),.slice (some a) l.length c] w fun e w'=>e=.returned (.bool true)∧Below w.heap.size w w':=by
 have nn:∀ (w:World) a n c,(Go.binOp .eql 28 (.slice a n c) (.slice none 0 0)).run Tryz.prog w=.ok (.bool a.isNone) w:=fun w a n c=>Go.Lib.run_eql_slice_nil w 28 163 a n c 0 0 Tryz.underlying28
 have HG:=hide hg
 clear hg
 obtain⟨b,off,ha,hblt,hcells⟩:∃ b off,(l=[]∨a=⟨b,off,none⟩)∧(l=[]∨b<w.heap.size)∧∀ i p,l[i]?=some p→w.cell? ⟨b,off+i*2,none⟩=some (xR p)∧w.cell? ⟨b,off+i*2+1,none⟩=some (yR p):=by
  rcases hs with rfl|⟨b,off,h,h1,h2⟩
  ·exact⟨0,0,Or.inl rfl,Or.inl rfl,fun i p h=>by simp at h⟩
  ·exact⟨b,off,Or.inr (Option.some.inj h),Or.inr h1,h2⟩
 clear hs
 have HC:=hide hcells
 clear hcells
 rcases ha with rfl|rfl
 ·go_enter Tryz.func126,Tryz.ntmps126
  go_wp2
  go_loopw [7] (fun i wr=>∃ k:Nat,k≤8∧i=.int .i64 k∧Below w.heap.size w wr) (fun i _=>8-(intOf i).toNat)
  case atStart=>exact⟨0,Nat.zero_le _,rfl,Below.refl _ _⟩
  case round=>
   obtain⟨k,hk,rfl,hbel⟩:=hrel
   by_cases hlt:k<8
   ·obtain⟨p,hp1,hp2,hp3⟩:=app_get ([]:List (ByteArray × Int)) beyondR k (by simpa using hlt)
    obtain rfl:=hp3 (by simp)
    obtain⟨g1,g2⟩:=(HG.out.below hbel HG.out.lt).cell hp1
    have hgl:g<wr.heap.size:=Nat.lt_of_lt_of_le HG.out.lt hbel.size
    simp only [xR,yR,beyondR] at g1 g2
    clear hp1 hp2 hp3
    go_wp2_with fail
    go_quiet (fail)
    go_wp2
    go_roundw
    case rel=>exact⟨k+1,by omega,by go_num,Below.drawn (hbel.alloc hbel.size _) _⟩
    case measure=>simp [intOf];omega
   ·go_wp2
    go_ret
    exact⟨rfl,hbel⟩
 ·go_enter Tryz.func126,Tryz.ntmps126
  go_wp2
  go_loopw [7] (fun i wr=>∃ k:Nat,k≤l.length+8∧i=.int .i64 k∧Below w.heap.size w wr) (fun i _=>l.length+8-(intOf i).toNat)
  case atStart=>exact⟨0,Nat.zero_le _,rfl,Below.refl _ _⟩
  case round=>
   obtain⟨k,hk,rfl,hbel⟩:=hrel
   by_cases hlt:k<l.length+8
   ·obtain⟨p,hp1,hp2,hp3⟩:=app_get l beyondR k hlt
    obtain⟨g1,g2⟩:=(HG.out.below hbel HG.out.lt).cell hp1
    have hgl:g<wr.heap.size:=Nat.lt_of_lt_of_le HG.out.lt hbel.size
    by_cases hkl:k<l.length
    ·have hbl:b<w.heap.size:=hblt.resolve_left (fun e=>by rw [e] at hkl;simp at hkl)
     obtain⟨c1,c2⟩:=HC.out k _ (hp2 hkl)
     have d1:wr.cell? ⟨b,off+k*2,none⟩=some (xR p):=(hbel.cell (p:=⟨b,off+k*2,none⟩) hbl).trans c1
     have d2:wr.cell? ⟨b,off+k*2+1,none⟩=some (yR p):=(hbel.cell (p:=⟨b,off+k*2+1,none⟩) hbl).trans c2
     have hbl2:b<wr.heap.size:=Nat.lt_of_lt_of_le hbl hbel.size
     obtain⟨p1,p2⟩:=p
     simp only [xR,yR] at d1 d2 g1 g2
     clear c1 c2 hp1 hp2 hp3 hblt
     go_wp2_with fail
     go_quiet (fail)
     go_wp2
     go_roundw
     case rel=>exact⟨k+1,by omega,by go_num,Below.drawn (hbel.alloc hbel.size _) _⟩
     case measure=>simp [intOf];omega
    ·obtain rfl:=hp3 (by omega)
     simp only [xR,yR,beyondR] at g1 g2
     clear hp1 hp2 hp3 hblt
     go_wp2_with fail
     go_quiet (fail)
     go_wp2
     go_roundw
     case rel=>exact⟨k+1,by omega,by go_num,Below.drawn (hbel.alloc hbel.size _) _⟩
     case measure=>simp [intOf];omega
   ·go_wp2
    go_ret
    exact⟨rfl,hbel⟩
theorem wholeG_nil (o:Value) (n c:Nat) (w:World) :
  Calls Tryz.prog 127 #[o,.slice none n c] w fun e w'=>e=.returned (.bool true)∧w=w':=by
 have nn:∀ (w:World) a n c,(Go.binOp .eql 29 (.slice a n c) (.slice none 0 0)).run Tryz.prog w=.ok (.bool a.isNone) w:=fun w a n c=>Go.Lib.run_eql_slice_nil w 29 166 a n c 0 0 Tryz.underlying29
 go_enter Tryz.func127,Tryz.ntmps127
 go_wp2
 go_ret
 exact⟨rfl,rfl⟩
theorem wholeG_some (l:List (Int × Int)) (g:Nat) (a:Addr) (c:Nat) (w:World) (hl:l.length≤8796093022208) (hg:RowAt xE yE w g 166 (l++pad 8 (77,77))) (hs:SeqAt xE yE w (some a) l) :
  Calls Tryz.prog 127 #[.slice (some ⟨g,0,none⟩) l.length (l.length+8),.slice (some a) l.length c] w fun e w'=>e=.returned (.bool true)∧Below w.heap.size w w':=by
 have nn:∀ (w:World) a n c,(Go.binOp .eql 29 (.slice a n c) (.slice none 0 0)).run Tryz.prog w=.ok (.bool a.isNone) w:=fun w a n c=>Go.Lib.run_eql_slice_nil w 29 166 a n c 0 0 Tryz.underlying29
 have HG:=hide hg
 clear hg
 obtain⟨b,off,ha,hblt,hcells⟩:∃ b off,(l=[]∨a=⟨b,off,none⟩)∧(l=[]∨b<w.heap.size)∧∀ i p,l[i]?=some p→w.cell? ⟨b,off+i*2,none⟩=some (xE p)∧w.cell? ⟨b,off+i*2+1,none⟩=some (yE p):=by
  rcases hs with rfl|⟨b,off,h,h1,h2⟩
  ·exact⟨0,0,Or.inl rfl,Or.inl rfl,fun i p h=>by simp at h⟩
  ·exact⟨b,off,Or.inr (Option.some.inj h),Or.inr h1,h2⟩
 clear hs
 have HC:=hide hcells
 clear hcells
 rcases ha with rfl|rfl
 ·go_enter Tryz.func127,Tryz.ntmps127
  go_wp2
  go_loopw [7] (fun i wr=>∃ k:Nat,k≤8∧i=.int .i64 k∧Below w.heap.size w wr) (fun i _=>8-(intOf i).toNat)
  case atStart=>exact⟨0,Nat.zero_le _,rfl,Below.refl _ _⟩
  case round=>
   obtain⟨k,hk,rfl,hbel⟩:=hrel
   by_cases hlt:k<8
   ·obtain⟨p,hp1,hp2,hp3⟩:=app_get ([]:List (Int × Int)) (77,77) k (by simpa using hlt)
    obtain rfl:=hp3 (by simp)
    obtain⟨g1,g2⟩:=(HG.out.below hbel HG.out.lt).cell hp1
    have hgl:g<wr.heap.size:=Nat.lt_of_lt_of_le HG.out.lt hbel.size
    simp only [xE,yE] at g1 g2
    clear hp1 hp2 hp3
    go_wp2_with fail
    go_quiet (fail)
    go_wp2
    go_roundw
    case rel=>exact⟨k+1,by omega,by go_num,Below.drawn (hbel.alloc hbel.size _) _⟩
    case measure=>simp [intOf];omega
   ·go_wp2
    go_ret
    exact⟨rfl,hbel⟩
 ·go_enter Tryz.func127,Tryz.ntmps127
  go_wp2
  go_loopw [7] (fun i wr=>∃ k:Nat,k≤l.length+8∧i=.int .i64 k∧Below w.heap.size w wr) (fun i _=>l.length+8-(intOf i).toNat)
  case atStart=>exact⟨0,Nat.zero_le _,rfl,Below.refl _ _⟩
  case round=>
   obtain⟨k,hk,rfl,hbel⟩:=hrel
   by_cases hlt:k<l.length+8
   ·obtain⟨p,hp1,hp2,hp3⟩:=app_get l (77,77) k hlt
    obtain⟨g1,g2⟩:=(HG.out.below hbel HG.out.lt).cell hp1
    have hgl:g<wr.heap.size:=Nat.lt_of_lt_of_le HG.out.lt hbel.size
    by_cases hkl:k<l.length
    ·have hbl:b<w.heap.size:=hblt.resolve_left (fun e=>by rw [e] at hkl;simp at hkl)
     obtain⟨c1,c2⟩:=HC.out k _ (hp2 hkl)
     have d1:wr.cell? ⟨b,off+k*2,none⟩=some (xE p):=(hbel.cell (p:=⟨b,off+k*2,none⟩) hbl).trans c1
     have d2:wr.cell? ⟨b,off+k*2+1,none⟩=some (yE p):=(hbel.cell (p:=⟨b,off+k*2+1,none⟩) hbl).trans c2
     have hbl2:b<wr.heap.size:=Nat.lt_of_lt_of_le hbl hbel.size
     obtain⟨p1,p2⟩:=p
     simp only [xE,yE] at d1 d2 g1 g2
     clear c1 c2 hp1 hp2 hp3 hblt
     go_wp2_with fail
     go_quiet (fail)
     go_wp2
     go_roundw
     case rel=>exact⟨k+1,by omega,by go_num,Below.drawn (hbel.alloc hbel.size _) _⟩
     case measure=>simp [intOf];omega
    ·obtain rfl:=hp3 (by omega)
     simp only [xE,yE] at g1 g2
     clear hp1 hp2 hp3 hblt
     go_wp2_with fail
     go_quiet (fail)
     go_wp2
     go_roundw
     case rel=>exact⟨k+1,by omega,by go_num,Below.drawn (hbel.alloc hbel.size _) _⟩
     case measure=>simp [intOf];omega
   ·go_wp2
    go_ret
    exact⟨rfl,hbel⟩
end Go.Proofs.YtgigkiocdiffjaaGreat
namespace Go.Proofs.YtgigkiocdiffjaaGreat
open Go.RowKit Veil
theorem wholeE_any (l:List (Int × Int)) (g:Nat) (ao oa:Option Addr) (c oc:Nat) (w:World) (hl:l.length≤8796093022208) (hg:RowAt xE yE w g 169 (l++pad 8 (77,77))) (hs:SeqAt xE yE w ao l) (ho:oa=ao.map fun _=>⟨g,0,none⟩) (hc:oc=if ao.isSome then l.length+8 else 0) :
  Calls Tryz.prog 125 #[.slice oa l.length oc,.slice ao l.length c] w fun e w'=>e=.returned (.bool true)∧Below w.heap.size w w':=by
 subst ho hc
 cases ao with
 | none=>exact (wholeE_nil _ _ _ w).mono fun e w' ⟨h1,h2⟩=>⟨h1,by subst h2;exact Below.refl _ _⟩
 | some a=>exact wholeE_some l g a c w hl hg hs
theorem wholeR_any (l:List (ByteArray × Int)) (g:Nat) (ao oa:Option Addr) (c oc:Nat) (w:World) (hl:l.length≤8796093022208) (hg:RowAt xR yR w g 163 (l++pad 8 beyondR)) (hs:SeqAt xR yR w ao l) (ho:oa=ao.map fun _=>⟨g,0,none⟩) (hc:oc=if ao.isSome then l.length+8 else 0) :
  Calls Tryz.prog 126 #[.slice oa l.length oc,.slice ao l.length c] w fun e w'=>e=.returned (.bool true)∧Below w.heap.size w w':=by
 subst ho hc
 cases ao with
 | none=>exact (wholeR_nil _ _ _ w).mono fun e w' ⟨h1,h2⟩=>⟨h1,by subst h2;exact Below.refl _ _⟩
 | some a=>exact wholeR_some l g a c w hl hg hs
theorem wholeG_any (l:List (Int × Int)) (g:Nat) (ao oa:Option Addr) (c oc:Nat) (w:World) (hl:l.length≤8796093022208) (hg:RowAt xE yE w g 166 (l++pad 8 (77,77))) (hs:SeqAt xE yE w ao l) (ho:oa=ao.map fun _=>⟨g,0,none⟩) (hc:oc=if ao.isSome then l.length+8 else 0) :
  Calls Tryz.prog 127 #[.slice oa l.length oc,.slice ao l.length c] w fun e w'=>e=.returned (.bool true)∧Below w.heap.size w w':=by
 subst ho hc
 cases ao with
 | none=>exact (wholeG_nil _ _ _ w).mono fun e w' ⟨h1,h2⟩=>⟨h1,by subst h2;exact Below.refl _ _⟩
 | some a=>exact wholeG_some l g a c w hl hg hs
theorem whole_any (c:Cfg) (v:CfgV) (g1 g2 g3:Nat) (w:World) (hok:CfgOk c) (hat:CfgAt w c v) (hl:LentAt w c g1 g2 g3) :
  Calls Tryz.prog 81 #[.agg (cfgCells c (lentV c v g1 g2 g3)),.agg (cfgCells c v)] w fun e w'=>e=.returned (.bool true)∧Below w.heap.size w w':=by
 have e1:(lentV c v g1 g2 g3).ea=v.ea.map fun _=>⟨g1,0,none⟩:=rfl
 have e2:(lentV c v g1 g2 g3).ra=v.ra.map fun _=>⟨g2,0,none⟩:=rfl
 have e3:(lentV c v g1 g2 g3).ga=v.ga.map fun _=>⟨g3,0,none⟩:=rfl
 have c1:(lentV c v g1 g2 g3).ec=if v.ea.isSome then c.edges.length+8 else 0:=rfl
 have c2:(lentV c v g1 g2 g3).rc=if v.ra.isSome then c.rules.length+8 else 0:=rfl
 have c3:(lentV c v g1 g2 g3).gc=if v.ga.isSome then c.grants.length+8 else 0:=rfl
 generalize lentV c v g1 g2 g3=V at *
 obtain⟨oea,oec,ora,orc,oga,ogc⟩:=V
 obtain⟨L,E,R,G⟩:=c
 obtain⟨ea,ec,ra,rc,ga,gc⟩:=v
 have E1:=hide e1
 have E2:=hide e2
 have E3:=hide e3
 have C1:=hide c1
 have C2:=hide c2
 have C3:=hide c3
 have HK:=hide hok
 have HA:=hide hat
 have HL:=hide hl
 have l1:=hl.edges.lt
 have l2:=hl.rules.lt
 have l3:=hl.grants.lt
 clear hok hat hl e1 e2 e3 c1 c2 c3
 unfold cfgCells
 have hbo:∀ o o':Obj,Below w.heap.size w ((w.alloc o).alloc o'):=fun o o'=>((Below.refl _ _).alloc (Nat.le_refl _) _).alloc (by simp) _
 have HB:=hide hbo
 clear hbo
 go_enter Tryz.func81,Tryz.ntmps81
 go_wp2_with fail
 refine (wholeE_any E g1 ea oea ec oec _ HK.out.edges (HL.out.edges.below (HB.out _ _) l1) (HA.out.edges.below (HB.out _ _)) E1.out C1.out).mono ?_
 rintro e w1 ⟨rfl,hb1⟩
 have hbw1:=(HB.out _ _).trans (hb1.mono (by simp;omega))
 have a2:w1.cell? ⟨w.heap.size,2,none⟩=some (.slice ora R.length orc):=by rw [hb1.cell (p:=⟨w.heap.size,2,none⟩) (by simp;omega)];simp
 have a3:w1.cell? ⟨w.heap.size,3,none⟩=some (.slice oga G.length ogc):=by rw [hb1.cell (p:=⟨w.heap.size,3,none⟩) (by simp;omega)];simp
 have b2:w1.cell? ⟨w.heap.size+1,2,none⟩=some (.slice ra R.length rc):=by rw [hb1.cell (p:=⟨w.heap.size+1,2,none⟩) (by simp)];simp
 have b3:w1.cell? ⟨w.heap.size+1,3,none⟩=some (.slice ga G.length gc):=by rw [hb1.cell (p:=⟨w.heap.size+1,3,none⟩) (by simp)];simp
 have z1:w.heap.size+1<w1.heap.size:=by have:=hb1.size;simp at this;omega
 have HB1:=hide hbw1
 clear hb1 hbw1
 go_wp2_with fail
 refine (wholeR_any R g2 ra ora rc orc _ HK.out.rules (HL.out.rules.below HB1.out l2) (HA.out.rules.below HB1.out) E2.out C2.out).mono ?_
 rintro e w2 ⟨rfl,hb2⟩
 have hbw2:=HB1.out.trans (hb2.mono (by omega))
 have a3':w2.cell? ⟨w.heap.size,3,none⟩=some (.slice oga G.length ogc):=by rw [hb2.cell (p:=⟨w.heap.size,3,none⟩) (by dsimp only;omega)];exact a3
 have b3':w2.cell? ⟨w.heap.size+1,3,none⟩=some (.slice ga G.length gc):=by rw [hb2.cell (p:=⟨w.heap.size+1,3,none⟩) (by dsimp only;omega)];exact b3
 have z2:w.heap.size+1<w2.heap.size:=by have:=hb2.size;omega
 have HB2:=hide hbw2
 clear hb2 hbw2 a2 a3 b2 b3 z1
 go_wp2_with fail
 refine (wholeG_any G g3 ga oga gc ogc _ HK.out.grants (HL.out.grants.below HB2.out l3) (HA.out.grants.below HB2.out) E3.out C3.out).mono ?_
 rintro e w3 ⟨rfl,hb3⟩
 have hbw3:=hide (HB2.out.trans (hb3.mono (by omega)))
 clear hb3 a3' b3' z2
 go_wp2
 go_ret
 exact⟨rfl,hbw3.out⟩
structure SpoilMid (w:World) (B:Nat) (c:Cfg) (v:CfgV) (g1 g2 g3:Nat):Prop where
 cfg:w.heap[B]?=some (.cells (cfgCells c (lentV c v g1 g2 g3)) 31 (0,0))
 edges:∃ l,l.length=c.edges.length+8∧RowAt xE yE w g1 169 l
 rules:∃ l,l.length=c.rules.length+8∧RowAt xR yR w g2 163 l
 grants:∃ l,l.length=c.grants.length+8∧RowAt xE yE w g3 166 l
theorem SpoilMid.stepE {w:World} {B:Nat} {c:Cfg} {v:CfgV} {g1 g2 g3 k:Nat} (h:SpoilMid w B c v g1 g2 g3) (a:Int × Int) (hk:k<c.edges.length+8) (h12:g1<g2) (h23:g2<g3) (hB:g3<B) :
  SpoilMid ((w.setCell ⟨g1,k*2,none⟩ (xE a)).setCell ⟨g1,k*2+1,none⟩ (yE a)) B c v g1 g2 g3:=by
 obtain⟨q0,⟨l1,q1,r1⟩,⟨l2,q2,r2⟩,⟨l3,q3,r3⟩⟩:=h
 refine⟨other2 q0 (by omega),⟨l1.set k a,by simp [q1],r1.store a (by omega)⟩,⟨l2,q2,other2 r2 (by omega)⟩,⟨l3,q3,other2 r3 (by omega)⟩⟩
theorem SpoilMid.stepR {w:World} {B:Nat} {c:Cfg} {v:CfgV} {g1 g2 g3 k:Nat} (h:SpoilMid w B c v g1 g2 g3) (a:ByteArray × Int) (hk:k<c.rules.length+8) (h12:g1<g2) (h23:g2<g3) (hB:g3<B) :
  SpoilMid ((w.setCell ⟨g2,k*2,none⟩ (xR a)).setCell ⟨g2,k*2+1,none⟩ (yR a)) B c v g1 g2 g3:=by
 obtain⟨q0,⟨l1,q1,r1⟩,⟨l2,q2,r2⟩,⟨l3,q3,r3⟩⟩:=h
 refine⟨other2 q0 (by omega),⟨l1,q1,other2 r1 (by omega)⟩,⟨l2.set k a,by simp [q2],r2.store a (by omega)⟩,⟨l3,q3,other2 r3 (by omega)⟩⟩
theorem SpoilMid.stepG {w:World} {B:Nat} {c:Cfg} {v:CfgV} {g1 g2 g3 k:Nat} (h:SpoilMid w B c v g1 g2 g3) (a:Int × Int) (hk:k<c.grants.length+8) (h12:g1<g2) (h23:g2<g3) (hB:g3<B) :
  SpoilMid ((w.setCell ⟨g3,k*2,none⟩ (xE a)).setCell ⟨g3,k*2+1,none⟩ (yE a)) B c v g1 g2 g3:=by
 obtain⟨q0,⟨l1,q1,r1⟩,⟨l2,q2,r2⟩,⟨l3,q3,r3⟩⟩:=h
 refine⟨other2 q0 (by omega),⟨l1,q1,other2 r1 (by omega)⟩,⟨l2,q2,other2 r2 (by omega)⟩,⟨l3.set k a,by simp [q3],r3.store a (by omega)⟩⟩
theorem spoil_any (c:Cfg) (v:CfgV) (g1 g2 g3 B:Nat) (w:World) (hok:CfgOk c) (hn:CfgNil c v) (hl:LentAt w c g1 g2 g3) (hB:B≤g1) (h12:g1<g2) (h23:g2<g3) :
  Calls Tryz.prog 82 #[.agg (cfgCells c (lentV c v g1 g2 g3))] w fun e w'=>e=.returned (.tuple #[])∧Below B w w':=by
 have l1:=hl.edges.lt
 have l2:=hl.rules.lt
 have l3:=hl.grants.lt
 have k1:=hok.edges
 have k2:=hok.rules
 have k3:=hok.grants
 have hm0:∀ o,o=Obj.cells (cfgCells c (lentV c v g1 g2 g3)) 31→SpoilMid (w.alloc o) w.heap.size c v g1 g2 g3:=fun o ho=>by
  subst ho
  exact⟨Go.heap_alloc_new _ _,⟨_,by simp [pad_length],row_alloc' hl.edges⟩,⟨_,by simp [pad_length],row_alloc' hl.rules⟩,⟨_,by simp [pad_length],row_alloc' hl.grants⟩⟩
 have HM:=hide hm0
 have HN:=hide hn
 clear hm0 hn hl hok
 have e1:0<c.edges.length→(lentV c v g1 g2 g3).ea=some ⟨g1,0,none⟩:=fun h=>by
  cases hv:v.ea with
  | none=>have:=(HN.out.edges hv).1;omega
  | some a=>simp [lentV,hv]
 have e2:0<c.rules.length→(lentV c v g1 g2 g3).ra=some ⟨g2,0,none⟩:=fun h=>by
  cases hv:v.ra with
  | none=>have:=(HN.out.rules hv).1;omega
  | some a=>simp [lentV,hv]
 have e3:0<c.grants.length→(lentV c v g1 g2 g3).ga=some ⟨g3,0,none⟩:=fun h=>by
  cases hv:v.ga with
  | none=>have:=(HN.out.grants hv).1;omega
  | some a=>simp [lentV,hv]
 have E1:=hide e1
 have E2:=hide e2
 have E3:=hide e3
 clear e1 e2 e3
 generalize hV:lentV c v g1 g2 g3=V at *
 have HV:=hide hV
 clear hV
 obtain⟨L,E,R,G⟩:=c
 obtain⟨ea,ec,ra,rc,ga,gc⟩:=V
 simp only at k1 k2 k3
 unfold cfgCells
 go_enter Tryz.func82,Tryz.ntmps82
 go_wp2
 go_loopw [2] (fun i wr=>∃ k:Nat,k≤E.length∧i=.int .i64 k∧SpoilMid wr w.heap.size ⟨L,E,R,G⟩ v g1 g2 g3∧Below B w wr) (fun i _=>E.length-(intOf i).toNat)
 case atStart=>exact⟨0,Nat.zero_le _,rfl,HM.out _ rfl,(Below.refl _ _).alloc (by omega) _⟩
 case round=>
  obtain⟨k,hk,rfl,hm,hbel⟩:=hrel
  have HK:=hide hm
  by_cases hlt:k<E.length
  ·obtain⟨l,hlen,hrow⟩:=hm.edges
   have hlen':k<l.length:=by rw [hlen];dsimp only;omega
   obtain⟨p1,p2⟩:=hrow.cell (List.getElem?_eq_getElem hlen')
   have f1:=hrow.frozen (k*2)
   have f2:=hrow.frozen (k*2+1)
   have c1:wr.cell? ⟨w.heap.size,1,none⟩=some (.slice (some ⟨g1,0,none⟩) E.length ec):=by
    have:=hm.cfg
    rw [HV.out] at this
    rw [cell_of_row _ _ _ _ _ _ this]
    have e:=E1.out (by omega)
    simp [cfgCells,e]
   generalize l[k]=q at *
   clear hm hrow hlen hlen'
   go_wp2
   go_roundw
   case rel=>exact⟨k+1,by omega,by go_num,HK.out.stepE (0,0) (by dsimp only;omega) h12 h23 l3,(hbel.setCell (by dsimp only;omega) _).setCell (by dsimp only;omega) _⟩
   case measure=>simp [intOf];omega
  ·have c1:wr.cell? ⟨w.heap.size,1,none⟩=some (.slice ea E.length ec):=by
    have:=hm.cfg
    rw [HV.out] at this
    rw [cell_of_row _ _ _ _ _ _ this];rfl
   clear hm
   go_wp2
   go_loopw [3] (fun i wr=>∃ k:Nat,k≤R.length∧i=.int .i64 k∧SpoilMid wr w.heap.size ⟨L,E,R,G⟩ v g1 g2 g3∧Below B w wr) (fun i _=>R.length-(intOf i).toNat)
   case atStart=>exact⟨0,Nat.zero_le _,rfl,HK.out,hbel⟩
   case round=>
    obtain⟨k,hk,rfl,hm,hbel⟩:=hrel
    have HK:=hide hm
    by_cases hlt:k<R.length
    ·obtain⟨l,hlen,hrow⟩:=hm.rules
     have hlen':k<l.length:=by rw [hlen];dsimp only;omega
     obtain⟨p1,p2⟩:=hrow.cell (List.getElem?_eq_getElem hlen')
     have f1:=hrow.frozen (k*2)
     have f2:=hrow.frozen (k*2+1)
     have c1:wr.cell? ⟨w.heap.size,2,none⟩=some (.slice (some ⟨g2,0,none⟩) R.length rc):=by
      have:=hm.cfg
      rw [HV.out] at this
      rw [cell_of_row _ _ _ _ _ _ this]
      have e:=E2.out (by omega)
      simp [cfgCells,e]
     generalize l[k]=q at *
     clear hm hrow hlen hlen'
     go_wp2
     go_roundw
     case rel=>exact⟨k+1,by omega,by go_num,HK.out.stepR (⟨#[42]⟩,0) (by dsimp only;omega) h12 h23 l3,(hbel.setCell (by dsimp only;omega) _).setCell (by dsimp only;omega) _⟩
     case measure=>simp [intOf];omega
    ·have c1:wr.cell? ⟨w.heap.size,2,none⟩=some (.slice ra R.length rc):=by
      have:=hm.cfg
      rw [HV.out] at this
      rw [cell_of_row _ _ _ _ _ _ this];rfl
     clear hm
     go_wp2
     go_loopw [4] (fun i wr=>∃ k:Nat,k≤G.length∧i=.int .i64 k∧SpoilMid wr w.heap.size ⟨L,E,R,G⟩ v g1 g2 g3∧Below B w wr) (fun i _=>G.length-(intOf i).toNat)
     case atStart=>exact⟨0,Nat.zero_le _,rfl,HK.out,hbel⟩
     case round=>
      obtain⟨k,hk,rfl,hm,hbel⟩:=hrel
      have HK:=hide hm
      by_cases hlt:k<G.length
      ·obtain⟨l,hlen,hrow⟩:=hm.grants
       have hlen':k<l.length:=by rw [hlen];dsimp only;omega
       obtain⟨p1,p2⟩:=hrow.cell (List.getElem?_eq_getElem hlen')
       have f1:=hrow.frozen (k*2)
       have f2:=hrow.frozen (k*2+1)
       have c1:wr.cell? ⟨w.heap.size,3,none⟩=some (.slice (some ⟨g3,0,none⟩) G.length gc):=by
        have:=hm.cfg
        rw [HV.out] at this
        rw [cell_of_row _ _ _ _ _ _ this]
        have e:=E3.out (by omega)
        simp [cfgCells,e]
       generalize l[k]=q at *
       clear hm hrow hlen hlen'
       go_wp2
       go_roundw
       case rel=>exact⟨k+1,by omega,by go_num,HK.out.stepG (0,0) (by dsimp only;omega) h12 h23 l3,(hbel.setCell (by dsimp only;omega) _).setCell (by dsimp only;omega) _⟩
       case measure=>simp [intOf];omega
      ·have c1:wr.cell? ⟨w.heap.size,3,none⟩=some (.slice ga G.length gc):=by
        have:=hm.cfg
        rw [HV.out] at this
        rw [cell_of_row _ _ _ _ _ _ this];rfl
       clear hm
       go_wp2
       go_end0
       exact⟨rfl,hbel⟩
end Go.Proofs.YtgigkiocdiffjaaGreat
