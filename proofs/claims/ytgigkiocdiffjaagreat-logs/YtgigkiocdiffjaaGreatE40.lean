import Derived.Test.YtgigkiocdiffjaaGreatE39
import Derived.Test.YtgigkiocdiffjaaGreatE15
import Derived.Test.YtgigkiocdiffjaaGreatE23
set_option maxRecDepth 100000
set_option maxHeartbeats 16000000
namespace Go.Proofs.YtgigkiocdiffjaaGreat
open Go.RowKit Veil
def logOf (c:Cfg) (acts:List RA) (d:Nat):List Rec:=logTo c acts d acts.length
def verOf (c:Cfg) (acts:List RA) (d:Nat):Nat:=verTo c acts d acts.length
def waitOf (c:Cfg) (acts:List RA) (d:Nat):List No:=waitsTo c acts d acts.length
section
variable {c:Cfg} {acts:List RA} {a:RA} {d k:Nat}
theorem snoc_at:(acts++[a])[acts.length]?=some a:=by simp
theorem take_pre (hk:k≤acts.length):(acts++[a]).take k=acts.take k:=List.take_append_of_le_length hk
theorem verTo_pre (hk:k≤acts.length):verTo c (acts++[a]) d k=verTo c acts d k:=by unfold verTo;rw [take_pre hk]
theorem waitsTo_pre (hk:k≤acts.length):waitsTo c (acts++[a]) d k=waitsTo c acts d k:=by unfold waitsTo;rw [take_pre hk]
theorem logTo_pre:∀ k,k≤acts.length→logTo c (acts++[a]) d k=logTo c acts d k:=by
 intro k
 induction k with
 | zero=>intro _;rfl
 | succ k ih=>
  intro hk
  have e:(acts++[a])[k]?=some acts[k]:=by rw [List.getElem?_append_left (by omega),List.getElem?_eq_getElem (by omega)]
  have e2:acts[k]?=some acts[k]:=List.getElem?_eq_getElem (by omega)
  cases h:((acts[k].kind == 4) && (acts[k].target == (d:Int)))
  ·rw [logTo_no e h,logTo_no e2 h,ih (by omega)]
  ·rw [logTo_yes e h,logTo_yes e2 h,ih (by omega),verTo_pre hk]
theorem verOf_snoc:verOf c (acts++[a]) d=bif countB c a d then verOf c acts d+1 else verOf c acts d:=by
 unfold verOf
 rw [List.length_append,List.length_singleton]
 cases h:countB c a d
 ·rw [verTo_no snoc_at h,verTo_pre (Nat.le_refl _)];rfl
 ·rw [verTo_yes snoc_at h,verTo_pre (Nat.le_refl _)];rfl
theorem waitOf_snoc:waitOf c (acts++[a]) d=waitS c d (waitOf c acts d) a:=by
 unfold waitOf
 rw [List.length_append,List.length_singleton,waitsTo_succ snoc_at,waitsTo_pre (Nat.le_refl _)]
theorem logOf_snoc:logOf c (acts++[a]) d=bif (a.kind == 4) && (a.target == (d:Int)) then logOf c acts d++[⟨a.who,a.cells,verOf c (acts++[a]) d⟩] else logOf c acts d:=by
 unfold logOf verOf
 rw [List.length_append,List.length_singleton]
 cases h:((a.kind == 4) && (a.target == (d:Int)))
 ·rw [logTo_no snoc_at h,logTo_pre _ (Nat.le_refl _)];rfl
 ·rw [logTo_yes snoc_at h,logTo_pre _ (Nat.le_refl _)];rfl
theorem verOf_le (c:Cfg) (acts:List RA) (d:Nat):verOf c acts d≤acts.length:=verTo_le _ _ _ _
theorem tell_ver {k n:Int} {b lo:Nat} (hk:k≠5):verOf c (acts++[⟨k,b,lo,n⟩]) d=tellV c lo (verOf c acts) d:=by
 rw [verOf_snoc]
 have h5:(k == 5)=false:=by simpa using hk
 unfold countB tellV
 simp only [h5,Bool.not_false,Bool.true_and]
theorem tell_wait {k n:Int} {b lo:Nat} (hk:k≠5):waitOf c (acts++[⟨k,b,lo,n⟩]) d=tellW c k b lo (waitOf c acts) d:=by
 rw [waitOf_snoc]
 have h5:(k == 5)=false:=by simpa using hk
 unfold waitS tellW addW clearB countB
 simp only [h5,Bool.false_and,cond_false,Bool.not_false,Bool.true_and]
 cases c.le lo d <;> cases ((b:Int) == (d:Int)) <;> simp
theorem log_keep {k n:Int} {b lo:Nat} (hk:k≠4):logOf c (acts++[⟨k,b,lo,n⟩]) d=logOf c acts d:=by
 rw [logOf_snoc]
 have:(k == 4)=false:=by simpa using hk
 simp [this]
theorem tellW_ok {k:Int} {b lo n:Nat} {W:Nat→List No} (h:∀ i,i<n→WOk (W i)) (hk:k≠0):∀ i,i<n→WOk (tellW c k b lo W i):=by
 intro i hi
 unfold tellW
 cases (c.le lo i && !((b:Int) == (i:Int)))
 ·exact h i hi
 ·exact addW_ok (h i hi) hk
end
structure DS where
 pd:Nat
 rd:Nat
 c:Cfg
 v:CfgV
 rows:List (RC × Value)
 acts:List RA
 rrv:Value
 rav:Value
 pv:PV
def DS.row (s:DS):List RC:=s.rows.map (·.1)
inductive DT where
 | ref (p:Part)
 | own (a:PT)
def dblk (s:DS):DT→Option Nat
 | .ref p=>blkOf' s.rd s.rrv s.rav s.rows p
 | .own a=>pblk s.c.n s.pd s.pv a
structure DocI (w0 w:World) (s:DS) (k:Nat):Prop where
 ref:RDocO w0 w s.rd s.c s.v s.rows s.acts s.rrv s.rav
 own:PDocO w0.heap.size w s.pd s.c s.row (ownC s.row) (logOf s.c s.acts) (verOf s.c s.acts) (waitOf s.c s.acts) s.pv
 right:CfgRight s.c
 cfg:CfgOk s.c
 good:RowOk s.c s.row k
 no35:∀ x,x ∈ s.row→x.b≠35
 acts:s.acts.length≤k∧∀ a,a ∈ s.acts→RAOk s.c a
 wok:∀ i,i<s.c.n→WOk (waitOf s.c s.acts i)
 lok:∀ i,i<s.c.n→(logOf s.c s.acts i).length≤8
 cross:∀ a p x,pblk s.c.n s.pd s.pv a=some x→blkOf' s.rd s.rrv s.rav s.rows p=some x→False
theorem RowOk.mono {c:Cfg} {row:List RC} {M N:Nat} (h:RowOk c row M) (hMN:M≤N):RowOk c row N:=⟨fun x hx=>⟨(h.cells x hx).1,Nat.le_trans (h.cells x hx).2 hMN⟩,h.quota⟩
section
variable {w0 w w':World} {s:DS} {k:Nat}
theorem DocI.low (h:DocI w0 w s k):∀ a x,dblk s a=some x→w0.heap.size≤x∧x<w.heap.size
 | .ref p,x,hx=>h.ref.parts.low p x hx
 | .own a,x,hx=>h.own.low a x hx
theorem DocI.n6 (h:DocI w0 w s k):s.c.n≤6:=(labels_of h.right.labels).2.2.2.2.2.1
theorem DocI.rowGood (h:DocI w0 w s k):RowGood s.c s.row:=⟨fun x hx=>⟨(h.good.cells x hx).1,h.no35 x hx⟩,h.good.length h.n6⟩
theorem DocI.rdocOk (h:DocI w0 w s k) (hk:k≤140737488355328):RDocOk s.c s.rows:=rdocOk_of h.right.labels h.right.lat h.cfg (fun r hr=>(h.right.rule.2 r hr).2) h.good hk
theorem DocI.mono (h:DocI w0 w s k) {k':Nat} (hk:k≤k'):DocI w0 w s k':=⟨h.ref,h.own,h.right,h.cfg,h.good.mono hk,h.no35,⟨Nat.le_trans h.acts.1 hk,h.acts.2⟩,h.wok,h.lok,h.cross⟩
theorem DocI.only (h:DocI w0 w s k) {F:Nat→Prop} (ho:Only F w w') (hF:∀ b,F b→w0.heap.size≤b) (hap:∀ a x,dblk s a=some x→¬ F x):DocI w0 w' s k:=
 ⟨h.ref.kept ho hF (fun p b hb=>hap (.ref p) b hb),h.own.only ho (fun a x hx=>hap (.own a) x hx),h.right,h.cfg,h.good,h.no35,h.acts,h.wok,h.lok,h.cross⟩
theorem DocI.below (h:DocI w0 w s k) (hb:Below w.heap.size w w'):DocI w0 w' s k:=h.only (F:=fun _=>False) (Only.of_below hb) (fun _ h=>h.elim) (fun _ _ _ h=>h)
theorem DocI.okL (h:DocI w0 w s k) (a:Int):okL s.c.n a=okL s.c.labels a:=by rw [(labels_of h.right.labels).2.2.2.2.1]
theorem DocI.box (h:DocI w0 w s k):PBox w s.pd s.c.n (tT s.c) s.pv.rv (grF s.c) s.pv.pv (ownC s.row) s.pv.nw:=h.own.box
theorem DocI.rules (h:DocI w0 w s k):OwnL 163 2 ruleV w w0.heap.size s.pv.rv s.c.rules:=h.own.rules
theorem DocI.cells (h:DocI w0 w s k):OwnL 181 20 (pcV s.c) w w0.heap.size s.pv.pv s.row:=h.own.cells
theorem DocI.vers (h:DocI w0 w s k) (hk:k≤4000000000000):∀ i,i<s.c.n→verOf s.c s.acts i≤4000000000000:=fun _ _=>Nat.le_trans (verOf_le _ _ _) (Nat.le_trans h.acts.1 hk)
theorem DocI.refAt (h:DocI w0 w s k) {p':PV} (hs:PStep s.c.n s.pd s.pv w p' w'):RDocO w0 w' s.rd s.c s.v s.rows s.acts s.rrv s.rav:=
 h.ref.kept hs.1 (fun b ⟨a,ha⟩=>(h.own.low a b ha).1) (fun p b hb ⟨a,ha⟩=>h.cross a p b ha hb)
end
def EditOk (w0 w:World) (s:DS) (k:Nat) (w':World):Prop:=∃ s',DocI w0 w' s' (k+1)∧s'.pd=s.pd∧s'.rd=s.rd∧Only (fun b=>∃ a,dblk s a=some b) w w'∧∀ a x,dblk s' a=some x→(∃ b,dblk s b=some x)∨w.heap.size≤x
theorem EditOk.same {w0 w w':World} {s:DS} {k:Nat} (h:DocI w0 w s k) (hb:Below w.heap.size w w'):EditOk w0 w s k w':=⟨s,(h.below hb).mono (Nat.le_succ k),rfl,rfl,Only.of_below hb,fun a _ hx=>Or.inl ⟨a,hx⟩⟩
theorem EditOk.both' {w0 w w1 w2 w3:World} {s:DS} {k:Nat} (h:DocI w0 w s k) (hb1:Below w.heap.size w w1) {row':List RC} {I':Nat→Nat} {L':Nat→List Rec} {V':Nat→Nat} {W':Nat→List No} {p':PV} (hp:PDocO w0.heap.size w2 s.pd s.c row' I' L' V' W' p') (hps:PStep s.c.n s.pd s.pv w1 p' w2)
  {rows':List (RC × Value)} {acts':List RA} {rv' av':Value} (href:RDocO w0 w3 s.rd s.c s.v rows' acts' rv' av') (ho3:Only (fun x=>∃ p,blkOf' s.rd s.rrv s.rav s.rows p=some x) w2 w3) (hnew:∀ p b,blkOf' s.rd rv' av' rows' p=some b→(∃ p,blkOf' s.rd s.rrv s.rav s.rows p=some b)∨w2.heap.size≤b)
  (hrow:rows'.map (·.1)=row') (hI:ownC row'=I') (hL:∀ i,i<s.c.n→logOf s.c acts' i=L' i) (hV:∀ i,i<s.c.n→verOf s.c acts' i=V' i) (hW:∀ i,i<s.c.n→waitOf s.c acts' i=W' i) (hlen:acts'.length≤k+1) (hra:∀ a,a ∈ acts'→RAOk s.c a) (hwok:∀ i,i<s.c.n→WOk (W' i)) (hlok:∀ i,i<s.c.n→(L' i).length≤8) (hgood:RowOk s.c row' (k+1)) (h35:∀ x,x ∈ row'→x.b≠35):DocI w0 w3 (⟨s.pd,s.rd,s.c,s.v,rows',acts',rv',av',p'⟩:DS) (k+1)∧Only (fun b=>∃ a,dblk s a=some b) w w3∧∀ a x,dblk (⟨s.pd,s.rd,s.c,s.v,rows',acts',rv',av',p'⟩:DS) a=some x→(∃ b,dblk s b=some x)∨w.heap.size≤x:=by
 have hs1:=hb1.size
 have hs12:=hps.1.size
 have refLow:∀ p x,blkOf' s.rd s.rrv s.rav s.rows p=some x→x<w.heap.size:=fun p x hx=>(h.ref.parts.low p x hx).2
 have ownNot:∀ a x,pblk s.c.n s.pd p' a=some x→¬ ∃ p,blkOf' s.rd s.rrv s.rav s.rows p=some x:=fun a x hx ⟨p,hp⟩=>by
  rcases hps.2 a x hx with⟨b,hb⟩|hge
  ·exact h.cross b p x hb hp
  ·have:=refLow p x hp;omega
 have hown3:PDocO w0.heap.size w3 s.pd s.c row' I' L' V' W' p':=hp.only ho3 ownNot
 subst hrow
 subst hI
 refine⟨⟨href,hown3.congr rfl hL hV hW,h.right,h.cfg,hgood,h35,⟨hlen,hra⟩,fun i hi=>by rw [hW i hi];exact hwok i hi,fun i hi=>by rw [hL i hi];exact hlok i hi,?_⟩,?_,?_⟩
 ·intro a p x ha hb
  rcases hnew p x hb with hold|hge
  ·exact ownNot a x ha hold
  ·have:=(hp.low a x ha).2;omega
 ·have o1:Only (fun b=>∃ a,dblk s a=some b) w w2:=(Only.of_below hb1).trans hps.1 (fun x ⟨a,ha⟩=>Or.inl ⟨.own a,ha⟩)
  exact o1.trans ho3 (fun x ⟨p,hp⟩=>Or.inl ⟨.ref p,hp⟩)
 ·intro a x hx
  cases a with
  | ref p=>
   rcases hnew p x hx with⟨p',hp'⟩|h'
   ·exact Or.inl ⟨.ref p',hp'⟩
   ·exact Or.inr (by omega)
  | own a=>
   rcases hps.2 a x hx with⟨b,hb⟩|h'
   ·exact Or.inl ⟨.own b,hb⟩
   ·exact Or.inr (by omega)
theorem EditOk.both {w0 w w1 w2 w3:World} {s:DS} {k:Nat} (h:DocI w0 w s k) (hb1:Below w.heap.size w w1) {row':List RC} {I':Nat→Nat} {L':Nat→List Rec} {V':Nat→Nat} {W':Nat→List No} {p':PV} (hp:PDocO w0.heap.size w2 s.pd s.c row' I' L' V' W' p') (hps:PStep s.c.n s.pd s.pv w1 p' w2)
  {rows':List (RC × Value)} {acts':List RA} {rv' av':Value} (href:RDocO w0 w3 s.rd s.c s.v rows' acts' rv' av') (ho3:Only (fun x=>∃ p,blkOf' s.rd s.rrv s.rav s.rows p=some x) w2 w3) (hnew:∀ p b,blkOf' s.rd rv' av' rows' p=some b→(∃ p,blkOf' s.rd s.rrv s.rav s.rows p=some b)∨w2.heap.size≤b)
  (hrow:rows'.map (·.1)=row') (hI:ownC row'=I') (hL:∀ i,i<s.c.n→logOf s.c acts' i=L' i) (hV:∀ i,i<s.c.n→verOf s.c acts' i=V' i) (hW:∀ i,i<s.c.n→waitOf s.c acts' i=W' i) (hlen:acts'.length≤k+1) (hra:∀ a,a ∈ acts'→RAOk s.c a) (hwok:∀ i,i<s.c.n→WOk (W' i)) (hlok:∀ i,i<s.c.n→(L' i).length≤8) (hgood:RowOk s.c row' (k+1)) (h35:∀ x,x ∈ row'→x.b≠35):EditOk w0 w s k w3:=by
 obtain⟨e1,e2,e3⟩:=EditOk.both' h hb1 hp hps href ho3 hnew hrow hI hL hV hW hlen hra hwok hlok hgood h35
 exact⟨_,e1,rfl,rfl,e2,e3⟩
theorem ownC_marked (p:Nat→Bool) (m:Mk) (row:List RC):ownC (markIf p m row row.length)=ownC row:=by
 funext l
 unfold ownC
 have key:(markIf p m row row.length).map (·.origin)=row.map (·.origin):=by
  apply List.ext_getElem?
  intro i
  rw [List.getElem?_map,List.getElem?_map,markIf_get]
  cases row[i]? with
  | none=>rfl
  | some x=>simp only [Option.map_some];cases (decide (i<row.length) && p i) <;> rfl
 have cnt:∀ r:List RC,(r.filter fun x=>x.origin == l).length=((r.map (·.origin)).filter fun o=>o == l).length:=by
  intro r
  induction r with
  | nil=>rfl
  | cons x r ih=>cases hx:(x.origin == l) <;> simp [hx,ih]
 rw [cnt,cnt,key]
theorem markIf_ok {c:Cfg} {row:List RC} {M:Nat} {m:Mk} (p:Nat→Bool) (h:RowOk c row M) (hm:MkOk c m):RowOk c (markIf p m row row.length) (M+1):=by
 refine⟨fun x hx=>?_,fun l=>by rw [ownC_marked];exact h.quota l⟩
 obtain⟨i,hi,he⟩:=List.getElem_of_mem hx
 have hg:(markIf p m row row.length)[i]?=some x:=by rw [← he];exact List.getElem?_eq_getElem hi
 rw [markIf_get] at hg
 cases hr:row[i]? with
 | none=>rw [hr] at hg;cases hg
 | some y=>
  rw [hr] at hg
  simp only [Option.map_some,Option.some.injEq] at hg
  have hy:=h.cells y (List.mem_of_getElem? hr)
  cases hc:(decide (i<row.length) && p i)
  ·rw [hc] at hg;simp only [cond_false] at hg;rw [← hg];exact⟨hy.1,Nat.le_trans hy.2 (Nat.le_succ M)⟩
  ·rw [hc] at hg;simp only [cond_true] at hg;rw [← hg]
   refine⟨⟨hy.1.byte,hy.1.origin,fun m' hm'=>?_⟩,?_⟩
   ·simp only [marked,List.mem_append,List.mem_singleton] at hm'
    rcases hm' with hm'|rfl
    ·exact hy.1.marks m' hm'
    ·exact hm
   ·simp only [marked,List.length_append,List.length_singleton];omega
theorem markIf_no35 {row:List RC} {m:Mk} (p:Nat→Bool) (h:∀ x,x ∈ row→x.b≠35):∀ x,x ∈ markIf p m row row.length→x.b≠35:=by
 intro x hx
 obtain⟨i,hi,he⟩:=List.getElem_of_mem hx
 have hg:(markIf p m row row.length)[i]?=some x:=by rw [← he];exact List.getElem?_eq_getElem hi
 rw [markIf_get] at hg
 cases hr:row[i]? with
 | none=>rw [hr] at hg;cases hg
 | some y=>
  rw [hr] at hg
  simp only [Option.map_some,Option.some.injEq] at hg
  have hy:=h y (List.mem_of_getElem? hr)
  cases hc:(decide (i<row.length) && p i)
  ·rw [hc] at hg;simp only [cond_false] at hg;rw [← hg];exact hy
  ·rw [hc] at hg;simp only [cond_true] at hg;rw [← hg];exact hy
end Go.Proofs.YtgigkiocdiffjaaGreat
namespace Go.Proofs.YtgigkiocdiffjaaGreat
open Go.RowKit Veil
theorem piece_no {a b:Int} {m:Nat} (h:pieceB a b m=false):a<0∨b≤a∨(m:Int)<b:=by
 by_cases h1:0≤a
 ·by_cases h2:a<b
  ·by_cases h3:b≤(m:Int)
   ·simp [pieceB,h1,h2,h3] at h
   ·omega
  ·omega
 ·omega
theorem piece_yes {a b:Int} {m:Nat} (h:pieceB a b m=true):∃ x y:Nat,a=x∧b=y∧x<y∧y≤m:=by
 simp only [pieceB,Bool.and_eq_true,decide_eq_true_eq] at h
 exact⟨a.toNat,b.toNat,by omega,by omega,by omega,by omega⟩
theorem cells_bound {c:Cfg} {row:List RC} {d a b:Nat} (hb:∀ x,x ∈ row→x.b<256) (hr:row.length≤1200) (hab:a<b) (hbl:b≤(placesR c row d).length):(cellsTo c row d (placesR c row d) a b).length≤1000000000000∧∀ r,r ∈ cellsTo c row d (placesR c row d) a b→r<row.length:=by
 have hok:=placesOk_R c row d hb
 have hl:=(hok.le (b-1) (by omega)).2
 rw [(cells_one hok b hab hbl).1]
 refine⟨?_,fun r hr=>?_⟩
 ·unfold cellsIn
  have:=List.length_filter_le (thR c row d) (List.range' (plAt (placesR c row d) a).first ((plAt (placesR c row d) (b-1)).last+1-(plAt (placesR c row d) a).first))
  rw [List.length_range'] at this
  omega
 ·have:=mem_cellsIn.1 hr
  simp only [meantB,Bool.and_eq_true,decide_eq_true_eq] at this
  omega
theorem DocI.bytes {w0 w:World} {s:DS} {k:Nat} (h:DocI w0 w s k):∀ x,x ∈ s.row→x.b<256:=fun x hx=>(h.good.cells x hx).1.byte
theorem DocI.mks {w0 w:World} {s:DS} {k:Nat} (h:DocI w0 w s k) (hk:k≤4000000000000):∀ (i:Nat) (p:RC × Value),s.rows[i]?=some p→p.1.marks.length≤4000000000000:=fun _ p hp=>Nat.le_trans (h.good.cells p.1 (List.mem_map.2 ⟨p,List.mem_of_getElem? hp,rfl⟩)).2 hk
theorem DocI.ne {w0 w:World} {s:DS} {k:Nat} (h:DocI w0 w s k):∀ b,s.pv.pv.ownBlock=some b→s.pd≠b:=fun b hb e=>h.own.ne (a:=.cells) (by simp) hb e.symm
theorem doc_delete (w0 w:World) (s:DS) (k:Nat) (o:OpR) (h:DocI w0 w s k) (hk:k≤4000000000000) (hko:o.kind=8) :
  Calls Tryz.prog 90 #[.agg (pairC s.pd s.rd),.agg o.cells] w fun e w'=>e=.returned (.bool true)∧EditOk w0 w s k w':=by
 have hok:=h.rdocOk (Nat.le_trans hk (by decide))
 obtain⟨_,_,_,_,hn,_,hn1⟩:=labels_of h.right.labels
 have refuse:∀ code:Int,(∀ w',Below w.heap.size w w'→Calls Tryz.prog 25 #[.pointer (some ⟨s.pd,0,none⟩),.int .i64 o.b,.int .i64 o.c,.int .i64 o.d] w' fun e w''=>e=.returned (.int .i64 code)∧Below w'.heap.size w' w'')→(∀ w',Below w.heap.size w w'→Calls Tryz.prog 133 #[.pointer (some ⟨s.rd,0,none⟩),.int .i64 o.b,.int .i64 o.c,.int .i64 o.d] w' fun e w''=>e=.returned (.int .i64 code)∧Below w'.heap.size w' w'')→Calls Tryz.prog 90 #[.agg (pairC s.pd s.rd),.agg o.cells] w fun e w'=>e=.returned (.bool true)∧EditOk w0 w s k w':=fun code hP hR=>by
  refine edited_delete s.pd s.rd o (fun w' w'' code'=>code'=code∧Below w'.heap.size w' w'') (EditOk w0 w s k) w hko (fun w' hb=>(hP w' hb).mono fun e w'' ⟨h1,h2⟩=>⟨code,h1,⟨rfl,h2⟩,fun k _ hk=>h2.block k hk⟩) (fun w' w'' code' hb ⟨hc,hb'⟩=>?_)
  subst hc
  have hbb:=hb.trans (hb'.mono hb.size)
  exact (hR w'' hbb).mono fun e w3 ⟨h1,h2⟩=>⟨h1,EditOk.same h (hbb.trans (h2.mono hbb.size))⟩
 cases hlv:okL s.c.labels o.b
 ·exact refuse 6 (fun w' hb=>dcDelete_lv s.pd _ _ _ _ _ _ _ o.b o.c o.d w' (h.box.below hb h.box.lt) (by rw [h.okL];exact hlv)) (fun w' hb=>rdelete_no1 s.c s.v s.rows s.rrv s.rav s.rd o.b o.c o.d w' (h.below hb).ref.read hlv)
 obtain⟨lv,hlv1,hlv2⟩:=okL_nat' hn hlv
 have hP:∀ w',Below w.heap.size w w'→DocI w0 w' s k:=fun w' hb=>h.below hb
 cases hpc:pieceB o.c o.d (placesR s.c s.row lv).length
 ·refine refuse 7 (fun w' hb=>?_) (fun w' hb=>?_)
  ·rw [hlv1]
   exact dcDelete_at s.c s.row s.pd _ _ s.pv.rv s.pv.pv _ _ _ w0.heap.size lv o.c o.d w' (hP w' hb).box (hP w' hb).rules (hP w' hb).cells rfl rfl h.right h.rowGood hlv2 hpc
  ·rw [hlv1]
   exact rdelete_no2 s.c s.v s.rows s.rrv s.rav s.rd lv o.c o.d w' (hP w' hb).ref.read hok (by rw [← hlv1];exact hlv) (piece_no hpc)
 obtain⟨x,y,hx,hy,hxy,hyl⟩:=piece_yes hpc
 have hcb:=cells_bound h.bytes (h.good.length h.n6) hxy hyl
 have hmm:=cells_meant s.c s.row lv h.bytes hxy hyl ⟨2,lv,0⟩
 refine edited_delete s.pd s.rd o (fun w' w'' code=>code=0∧∃ p',PDocO w0.heap.size w'' s.pd s.c (markAll s.row (cellsTo s.c s.row lv (placesR s.c s.row lv) x y) ⟨2,lv,0⟩) (ownC s.row) (logOf s.c s.acts) (tellV s.c lv (verOf s.c s.acts)) (tellW s.c 2 lv lv (waitOf s.c s.acts)) p'∧PStep s.c.n s.pd s.pv w' p' w'') (EditOk w0 w s k) w hko (fun w' hb=>?_) (fun w' w'' code hb ⟨hc,p',hpd,hps⟩=>?_)
 ·have hd:=hP w' hb
  rw [hlv1,hx,hy]
  refine (dcDelete_ok s.c s.row s.pd _ _ s.pv.rv s.pv.pv _ _ _ w0.heap.size lv x y w' hd.box hd.rules hd.cells rfl rfl h.right h.rowGood h.ne hlv2 hxy hyl (fun w''=>∃ p',PDocO w0.heap.size w'' s.pd s.c (markAll s.row (cellsTo s.c s.row lv (placesR s.c s.row lv) x y) ⟨2,lv,0⟩) (ownC s.row) (logOf s.c s.acts) (tellV s.c lv (verOf s.c s.acts)) (tellW s.c 2 lv lv (waitOf s.c s.acts)) p'∧PStep s.c.n s.pd s.pv w' p' w'') (fun w1 hown hon=>?_)).mono ?_
  ·obtain⟨d1,s1⟩:=hd.own.mark hown hon
   refine (nwTell_any d1 h.n6 h.right.labels 2 lv lv hlv2 h.wok (h.vers hk) (Nat.le_trans hd.ref.old.size s1.1.size)).mono ?_
   rintro e w'' ⟨rfl,p',h1,h2⟩
   exact⟨rfl,p',h1,s1.trans h2⟩
  ·rintro e w'' ⟨rfl,p',h1,h2⟩
   exact⟨0,rfl,⟨rfl,p',h1,h2⟩,fun j hj1 hj2=>h2.1.block j hj2 (fun ⟨a,ha⟩=>by have:=(h.own.low a j ha).2;omega)⟩
 ·subst hc
  have hd:=hP w' hb
  have hrefk:RDocO w0 w'' s.rd s.c s.v s.rows s.acts s.rrv s.rav:=hd.refAt hps
  rw [hlv1,hx,hy]
  refine (rdelete_ok w0 w'' s.rd s.c s.v s.rows s.acts s.rrv s.rav lv x y hrefk hok (by rw [← hlv1];exact hlv) hxy hyl (h.mks hk) (Nat.le_trans h.acts.1 hk) (by simpa [DS.row] using hcb)).mono ?_
  rintro e w3 ⟨rfl,rows',av',hr1,hr2,hr3,hr4⟩
  refine⟨rfl,EditOk.both h hb hpd hps hr1 hr3 hr4 hr2 ?_ (fun i _=>log_keep (by decide)) (fun i _=>tell_ver (by decide)) (fun i _=>tell_wait (by decide)) ?_ ?_ (tellW_ok h.wok (by decide)) h.lok ?_ ?_⟩
  ·rw [hmm];exact ownC_marked _ _ _
  ·simp only [List.length_append,List.length_singleton];have:=h.acts.1;omega
  ·intro a ha
   simp only [List.mem_append,List.mem_singleton] at ha
   rcases ha with ha|rfl
   ·exact h.acts.2 a ha
   ·exact fun _=>⟨lv,rfl,hlv2⟩
  ·rw [hmm];exact markIf_ok _ h.good ⟨hlv2,by show 0<s.c.n;omega⟩
  ·rw [hmm];exact markIf_no35 _ h.no35
theorem doc_raise (w0 w:World) (s:DS) (k:Nat) (o:OpR) (h:DocI w0 w s k) (hk:k≤4000000000000) (hko:o.kind=13) :
  Calls Tryz.prog 90 #[.agg (pairC s.pd s.rd),.agg o.cells] w fun e w'=>e=.returned (.bool true)∧EditOk w0 w s k w':=by
 have hok:=h.rdocOk (Nat.le_trans hk (by decide))
 obtain⟨_,_,_,_,hn,_,hn1⟩:=labels_of h.right.labels
 have refuse:∀ code:Int,(∀ w',Below w.heap.size w w'→Calls Tryz.prog 26 #[.pointer (some ⟨s.pd,0,none⟩),.int .i64 o.b,.int .i64 o.c,.int .i64 o.d,.int .i64 o.e] w' fun e w''=>e=.returned (.int .i64 code)∧Below w'.heap.size w' w'')→(∀ w',Below w.heap.size w w'→Calls Tryz.prog 134 #[.pointer (some ⟨s.rd,0,none⟩),.int .i64 o.b,.int .i64 o.c,.int .i64 o.d,.int .i64 o.e] w' fun e w''=>e=.returned (.int .i64 code)∧Below w'.heap.size w' w'')→Calls Tryz.prog 90 #[.agg (pairC s.pd s.rd),.agg o.cells] w fun e w'=>e=.returned (.bool true)∧EditOk w0 w s k w':=fun code hP hR=>by
  refine edited_raise s.pd s.rd o (fun w' w'' code'=>code'=code∧Below w'.heap.size w' w'') (EditOk w0 w s k) w hko (fun w' hb=>(hP w' hb).mono fun e w'' ⟨h1,h2⟩=>⟨code,h1,⟨rfl,h2⟩,fun k _ hk=>h2.block k hk⟩) (fun w' w'' code' hb ⟨hc,hb'⟩=>?_)
  subst hc
  have hbb:=hb.trans (hb'.mono hb.size)
  exact (hR w'' hbb).mono fun e w3 ⟨h1,h2⟩=>⟨h1,EditOk.same h (hbb.trans (h2.mono hbb.size))⟩
 cases hlv:okL s.c.labels o.b
 ·exact refuse 6 (fun w' hb=>dcRaise_lv s.pd _ _ _ _ _ _ _ o.b o.c o.d o.e w' (h.box.below hb h.box.lt) (by rw [h.okL];exact hlv)) (fun w' hb=>rraise_no1 s.c s.v s.rows s.rrv s.rav s.rd o.b o.c o.d o.e w' (h.below hb).ref.read hlv)
 cases hlb:okL s.c.labels o.e
 ·exact refuse 6 (fun w' hb=>dcRaise_lb s.pd _ _ _ _ _ _ _ o.b o.c o.d o.e w' (h.box.below hb h.box.lt) (by rw [h.okL];exact hlv) (by rw [h.okL];exact hlb)) (fun w' hb=>rraise_no1b s.c s.v s.rows s.rrv s.rav s.rd o.b o.c o.d o.e w' (h.below hb).ref.read hlv hlb)
 obtain⟨lb,hlb1,hlb2⟩:=okL_nat' hn hlb
 obtain⟨lv,hlv1,hlv2⟩:=okL_nat' hn hlv
 have hP:∀ w',Below w.heap.size w w'→DocI w0 w' s k:=fun w' hb=>h.below hb
 cases hpc:pieceB o.c o.d (placesR s.c s.row lv).length
 ·refine refuse 7 (fun w' hb=>?_) (fun w' hb=>?_)
  ·rw [hlv1,hlb1]
   exact dcRaise_at s.c s.row s.pd _ _ s.pv.rv s.pv.pv _ _ _ w0.heap.size lv o.c o.d lb w' (hP w' hb).box (hP w' hb).rules (hP w' hb).cells rfl rfl h.right h.rowGood hlv2 hlb2 hpc
  ·rw [hlv1,hlb1]
   exact rraise_no2 s.c s.v s.rows s.rrv s.rav s.rd lv o.c o.d lb w' (hP w' hb).ref.read hok (by rw [← hlv1];exact hlv) (by rw [← hlb1];exact hlb) (piece_no hpc)
 obtain⟨x,y,hx,hy,hxy,hyl⟩:=piece_yes hpc
 have hcb:=cells_bound h.bytes (h.good.length h.n6) hxy hyl
 have hmm:=cells_meant s.c s.row lv h.bytes hxy hyl ⟨3,lv,lb⟩
 refine edited_raise s.pd s.rd o (fun w' w'' code=>code=0∧∃ p',PDocO w0.heap.size w'' s.pd s.c (markAll s.row (cellsTo s.c s.row lv (placesR s.c s.row lv) x y) ⟨3,lv,lb⟩) (ownC s.row) (logOf s.c s.acts) (tellV s.c lv (verOf s.c s.acts)) (tellW s.c 3 lv lv (waitOf s.c s.acts)) p'∧PStep s.c.n s.pd s.pv w' p' w'') (EditOk w0 w s k) w hko (fun w' hb=>?_) (fun w' w'' code hb ⟨hc,p',hpd,hps⟩=>?_)
 ·have hd:=hP w' hb
  rw [hlv1,hx,hy,hlb1]
  refine (dcRaise_ok s.c s.row s.pd _ _ s.pv.rv s.pv.pv _ _ _ w0.heap.size lv x y lb w' hd.box hd.rules hd.cells rfl rfl h.right h.rowGood h.ne hlv2 hlb2 hxy hyl (fun w''=>∃ p',PDocO w0.heap.size w'' s.pd s.c (markAll s.row (cellsTo s.c s.row lv (placesR s.c s.row lv) x y) ⟨3,lv,lb⟩) (ownC s.row) (logOf s.c s.acts) (tellV s.c lv (verOf s.c s.acts)) (tellW s.c 3 lv lv (waitOf s.c s.acts)) p'∧PStep s.c.n s.pd s.pv w' p' w'') (fun w1 hown hon=>?_)).mono ?_
  ·obtain⟨d1,s1⟩:=hd.own.mark hown hon
   refine (nwTell_any d1 h.n6 h.right.labels 3 lv lv hlv2 h.wok (h.vers hk) (Nat.le_trans hd.ref.old.size s1.1.size)).mono ?_
   rintro e w'' ⟨rfl,p',h1,h2⟩
   exact⟨rfl,p',h1,s1.trans h2⟩
  ·rintro e w'' ⟨rfl,p',h1,h2⟩
   exact⟨0,rfl,⟨rfl,p',h1,h2⟩,fun j hj1 hj2=>h2.1.block j hj2 (fun ⟨a,ha⟩=>by have:=(h.own.low a j ha).2;omega)⟩
 ·subst hc
  have hd:=hP w' hb
  have hrefk:RDocO w0 w'' s.rd s.c s.v s.rows s.acts s.rrv s.rav:=hd.refAt hps
  rw [hlv1,hx,hy,hlb1]
  refine (rraise_ok w0 w'' s.rd s.c s.v s.rows s.acts s.rrv s.rav lv x y lb hrefk hok (by rw [← hlv1];exact hlv) (by rw [← hlb1];exact hlb) hxy hyl (h.mks hk) (Nat.le_trans h.acts.1 hk) (by simpa [DS.row] using hcb)).mono ?_
  rintro e w3 ⟨rfl,rows',av',hr1,hr2,hr3,hr4⟩
  refine⟨rfl,EditOk.both h hb hpd hps hr1 hr3 hr4 hr2 ?_ (fun i _=>log_keep (by decide)) (fun i _=>tell_ver (by decide)) (fun i _=>tell_wait (by decide)) ?_ ?_ (tellW_ok h.wok (by decide)) h.lok ?_ ?_⟩
  ·rw [hmm];exact ownC_marked _ _ _
  ·simp only [List.length_append,List.length_singleton];have:=h.acts.1;omega
  ·intro a ha
   simp only [List.mem_append,List.mem_singleton] at ha
   rcases ha with ha|rfl
   ·exact h.acts.2 a ha
   ·exact fun _=>⟨lv,rfl,hlv2⟩
  ·rw [hmm];exact markIf_ok _ h.good ⟨hlv2,hlb2⟩
  ·rw [hmm];exact markIf_no35 _ h.no35
theorem doc_view (w0 w:World) (s:DS) (k:Nat) (o:OpR) (h:DocI w0 w s k) (hk:k≤4000000000000) (hko:o.kind=9) :
  Calls Tryz.prog 97 #[.agg (pairC s.pd s.rd),.agg o.cells] w fun e w'=>e=.returned (.bool true)∧Below w.heap.size w w':=by
 have hok:=h.rdocOk (Nat.le_trans hk (by decide))
 obtain⟨_,_,_,_,hn,_,_⟩:=labels_of h.right.labels
 cases hlv:okL s.c.labels o.b
 ·exact looked_view s.pd s.rd o ByteArray.empty 6 w hko (fun w' hb=>dcView_no s.pd _ _ _ _ _ _ _ o.b w' (h.box.below hb h.box.lt) (by rw [h.okL];exact hlv)) (fun w' hb=>rview_no s.c s.v s.rows s.rrv s.rav s.rd o.b w' (h.below hb).ref.read hlv)
 ·obtain⟨lv,hlv1,hlv2⟩:=okL_nat' hn hlv
  obtain⟨hv1,hv2⟩:=view_of hok lv
  refine looked_view s.pd s.rd o (viewT (placesR s.c s.row lv)) 0 w hko (fun w' hb=>?_) (fun w' hb=>?_)
  ·rw [hlv1]
   have hd:=h.below hb
   exact dcView_ok s.c s.row s.pd _ _ s.pv.rv s.pv.pv _ _ _ w0.heap.size lv w' hd.box hd.rules hd.cells rfl rfl h.right h.rowGood hlv2
  ·rw [hlv1]
   exact rview_ok s.c s.v s.rows s.rrv s.rav s.rd lv w' (h.below hb).ref.read hok (by rw [← hlv1];exact hlv) hv1 hv2
theorem doc_left (w0 w:World) (s:DS) (k:Nat) (o:OpR) (h:DocI w0 w s k) (hk:k≤4000000000000) (hko:o.kind=12) :
  Calls Tryz.prog 97 #[.agg (pairC s.pd s.rd),.agg o.cells] w fun e w'=>e=.returned (.bool true)∧Below w.heap.size w w':=by
 have hok:=h.rdocOk (Nat.le_trans hk (by decide))
 obtain⟨_,_,_,_,hn,_,_⟩:=labels_of h.right.labels
 cases hlv:okL s.c.labels o.b
 ·exact looked_left s.pd s.rd o 0 6 w hko (fun w' hb=>dcLeft_no s.pd _ _ _ _ _ _ _ o.b w' (h.box.below hb h.box.lt) (by rw [h.okL];exact hlv)) (fun w' hb=>rleft_no s.c s.v s.rows s.rrv s.rav s.rd o.b w' (h.below hb).ref.read hlv)
 ·obtain⟨lv,hlv1,hlv2⟩:=okL_nat' hn hlv
  refine looked_left s.pd s.rd o (200-(ownC s.row lv:Int)) 0 w hko (fun w' hb=>?_) (fun w' hb=>?_)
  ·rw [hlv1]
   exact dcLeft_ok s.pd _ _ s.pv.rv s.pv.pv _ _ _ lv w' (h.below hb).box h.n6 hlv2 (h.good.quota lv)
  ·rw [hlv1]
   have:=rleft_ok s.c s.v s.rows s.rrv s.rav s.rd lv w' (h.below hb).ref.read hok (by rw [← hlv1];exact hlv)
   rw [ownN_own] at this
   exact this
end Go.Proofs.YtgigkiocdiffjaaGreat
namespace Go.Proofs.YtgigkiocdiffjaaGreat
open Go.RowKit Veil
theorem putC_own (row:List RC) (s:ByteArray) (lv m k:Nat):ownC (putC row (newC s lv m) k)=insF (ownC row) lv m:=by
 funext l
 have h1:ownC (putC row (newC s lv m) k) l=ownC row l+ownC (newC s lv m) l:=by
  have:ownC row l=ownC (row.take k) l+ownC (row.drop k) l:=by
   unfold ownC
   rw [← List.length_append,← List.filter_append,List.take_append_drop]
  rw [this]
  unfold ownC putC
  simp only [List.filter_append,List.length_append]
  omega
 have h2:ownC (newC s lv m) l=if l=lv then m else 0:=by
  clear h1
  induction m with
  | zero=>unfold ownC;rw [newC_zero];simp
  | succ m ih=>
   have:newC s lv (m+1)=newC s lv m++[⟨((bytes s).getD m 0).toNat,lv,[]⟩]:=by
    unfold newC newTo;rw [List.range_succ,List.map_append,List.map_append];rfl
   unfold ownC at *
   rw [this,List.filter_append,List.length_append,ih]
   by_cases hl:l=lv
   ·subst hl;simp
   ·have:(lv == l)=false:=by simp;omega
    simp [hl,this]
 rw [h1,h2]
 unfold insF
 by_cases hl:l=lv
 ·subst hl;simp
 ·simp [hl]
theorem newC_no35 {s:ByteArray} (lv:Nat) (h:textOkB s=true):∀ x,x ∈ newC s lv s.size→x.b≠35:=by
 intro x hx
 unfold newC newTo at hx
 simp only [List.map_map,List.mem_map,List.mem_range] at hx
 obtain⟨j,hj,rfl⟩:=hx
 unfold textOkB okTo at h
 simp only [Bool.and_eq_true,List.all_eq_true] at h
 have hm:(bytes s).getD j 0 ∈ (bytes s).take s.size:=by
  rw [List.take_of_length_le (by rw [bytes_length];exact Nat.le_refl _),List.getD,List.getElem?_eq_getElem (by rw [bytes_length];exact hj)]
  exact List.getElem_mem _
 have:=h.1.1 _ hm
 unfold okByte at this
 simp only [Bool.and_eq_true,Bool.not_eq_true',beq_eq_false_iff_ne] at this
 exact this.2
theorem doc_insert (w0 w:World) (s:DS) (k:Nat) (o:OpR) (h:DocI w0 w s k) (hk:k≤4000000000000) (hos:o.s.size≤140737488355328) (hko:o.kind=7) :
  Calls Tryz.prog 90 #[.agg (pairC s.pd s.rd),.agg o.cells] w fun e w'=>e=.returned (.bool true)∧EditOk w0 w s k w':=by
 have hok:=h.rdocOk (Nat.le_trans hk (by decide))
 obtain⟨_,_,_,_,hn,_,hn1⟩:=labels_of h.right.labels
 have refuse:∀ code:Int,(∀ w',Below w.heap.size w w'→Calls Tryz.prog 24 #[.pointer (some ⟨s.pd,0,none⟩),.int .i64 o.b,.int .i64 o.c,.string o.s] w' fun e w''=>e=.returned (.int .i64 code)∧Below w'.heap.size w' w'')→(∀ w',Below w.heap.size w w'→Calls Tryz.prog 132 #[.pointer (some ⟨s.rd,0,none⟩),.int .i64 o.b,.int .i64 o.c,.string o.s] w' fun e w''=>e=.returned (.int .i64 code)∧Below w'.heap.size w' w'')→Calls Tryz.prog 90 #[.agg (pairC s.pd s.rd),.agg o.cells] w fun e w'=>e=.returned (.bool true)∧EditOk w0 w s k w':=fun code hP hR=>by
  refine edited_insert s.pd s.rd o (fun w' w'' code'=>code'=code∧Below w'.heap.size w' w'') (EditOk w0 w s k) w hko (fun w' hb=>(hP w' hb).mono fun e w'' ⟨h1,h2⟩=>⟨code,h1,⟨rfl,h2⟩,fun k _ hk=>h2.block k hk⟩) (fun w' w'' code' hb ⟨hc,hb'⟩=>?_)
  subst hc
  have hbb:=hb.trans (hb'.mono hb.size)
  exact (hR w'' hbb).mono fun e w3 ⟨h1,h2⟩=>⟨h1,EditOk.same h (hbb.trans (h2.mono hbb.size))⟩
 cases hlv:okL s.c.labels o.b
 ·exact refuse 6 (fun w' hb=>dcInsert_lv s.pd _ _ _ _ _ _ _ o.b o.c o.s w' (h.box.below hb h.box.lt) (by rw [h.okL];exact hlv)) (fun w' hb=>rinsert_no1 s.c s.v s.rows s.rrv s.rav s.rd o.b o.c o.s w' (h.below hb).ref.read hlv)
 obtain⟨lv,hlv1,hlv2⟩:=okL_nat' hn hlv
 have hP:∀ w',Below w.heap.size w w'→DocI w0 w' s k:=fun w' hb=>h.below hb
 by_cases hat:o.c<0∨((placesR s.c s.row lv).length:Int)<o.c
 ·refine refuse 7 (fun w' hb=>?_) (fun w' hb=>?_)
  ·rw [hlv1]
   exact dcInsert_at s.c s.row s.pd _ _ s.pv.rv s.pv.pv _ _ _ w0.heap.size lv o.c o.s w' (hP w' hb).box (hP w' hb).rules (hP w' hb).cells rfl rfl h.right h.rowGood hlv2 hat
  ·rw [hlv1]
   exact rinsert_no2 s.c s.v s.rows s.rrv s.rav s.rd lv o.c o.s w' (hP w' hb).ref.read hok (by rw [← hlv1];exact hlv) hat
 obtain⟨a,ha,hal⟩:∃ a:Nat,o.c=a∧a≤(placesR s.c s.row lv).length:=⟨o.c.toNat,by omega,by omega⟩
 have hR:∀ w',RDocO w0 w' s.rd s.c s.v s.rows s.acts s.rrv s.rav→Calls Tryz.prog 132 #[.pointer (some ⟨s.rd,0,none⟩),.int .i64 o.b,.int .i64 o.c,.string o.s] w' fun e w''=>∃ code,e=.returned (.int .i64 code)∧InsIs w0 w' w'' s.rd s.c s.v s.rows s.acts s.rrv s.rav lv a o.s code:=fun w' hr=>by
  rw [hlv1,ha]
  exact rinsert_any w0 w' s.rd s.c s.v s.rows s.acts s.rrv s.rav lv a o.s hr hok (by rw [← hlv1];exact hlv) hal hos (Nat.le_trans h.acts.1 hk)
 have hownN:ownN s.rows lv s.rows.length=ownC s.row lv:=ownN_own s.rows lv
 have hq:=h.good.quota lv
 cases htx:textOkB o.s
 ·refine refuse 8 (fun w' hb=>?_) (fun w' hb=>?_)
  ·rw [hlv1,ha]
   exact dcInsert_text s.c s.row s.pd _ _ s.pv.rv s.pv.pv _ _ _ w0.heap.size lv a o.s w' (hP w' hb).box (hP w' hb).rules (hP w' hb).cells rfl rfl h.right h.rowGood hlv2 hal hos htx
  ·refine (hR w' (hP w' hb).ref).mono ?_
   rintro e w'' ⟨code,rfl,hi⟩
   obtain⟨rfl,hb'⟩:=hi.bad htx
   exact⟨rfl,hb'⟩
 have hts:o.s.size≤40:=by
  unfold textOkB at htx
  simp only [Bool.and_eq_true,decide_eq_true_eq] at htx
  exact htx.2
 by_cases hfull:200<ownC s.row lv+o.s.size
 ·refine refuse 9 (fun w' hb=>?_) (fun w' hb=>?_)
  ·rw [hlv1,ha]
   exact dcInsert_full s.c s.row s.pd _ _ s.pv.rv s.pv.pv _ _ _ w0.heap.size lv a o.s w' (hP w' hb).box (hP w' hb).rules (hP w' hb).cells rfl rfl h.right h.rowGood hlv2 hal hts htx hq hfull
  ·refine (hR w' (hP w' hb).ref).mono ?_
   rintro e w'' ⟨code,rfl,hi⟩
   obtain⟨rfl,hb'⟩:=hi.full htx (by rw [hownN];exact hfull)
   exact⟨rfl,hb'⟩
 refine edited_insert s.pd s.rd o (fun w' w'' code=>code=0∧∃ p',PDocO w0.heap.size w'' s.pd s.c (putC s.row (newC o.s lv o.s.size) (behindR (placesR s.c s.row lv) a)) (insF (ownC s.row) lv o.s.size) (logOf s.c s.acts) (tellV s.c lv (verOf s.c s.acts)) (tellW s.c 1 lv lv (waitOf s.c s.acts)) p'∧PStep s.c.n s.pd s.pv w' p' w'') (EditOk w0 w s k) w hko (fun w' hb=>?_) (fun w' w'' code hb ⟨hc,p',hpd,hps⟩=>?_)
 ·have hd:=hP w' hb
  rw [hlv1,ha]
  refine (dcInsert_ok s.c s.row s.pd _ _ s.pv.rv s.pv.pv _ _ _ w0.heap.size lv a o.s w' hd.box hd.rules hd.cells rfl rfl h.right h.rowGood hlv2 hal hts htx (by omega) (fun w''=>∃ p',PDocO w0.heap.size w'' s.pd s.c (putC s.row (newC o.s lv o.s.size) (behindR (placesR s.c s.row lv) a)) (insF (ownC s.row) lv o.s.size) (logOf s.c s.acts) (tellV s.c lv (verOf s.c s.acts)) (tellW s.c 1 lv lv (waitOf s.c s.acts)) p'∧PStep s.c.n s.pd s.pv w' p' w'') (fun w1 ⟨v6,hpb,hown,hon⟩=>?_)).mono ?_
  ·obtain⟨d1,s1⟩:=hd.own.lay hpb hown hon hd.ref.old.size
   refine (nwTell_any d1 h.n6 h.right.labels 1 lv lv hlv2 h.wok (h.vers hk) (Nat.le_trans hd.ref.old.size s1.1.size)).mono ?_
   rintro e w'' ⟨rfl,p',h1,h2⟩
   exact⟨rfl,p',h1,s1.trans h2⟩
  ·rintro e w'' ⟨rfl,p',h1,h2⟩
   exact⟨0,rfl,⟨rfl,p',h1,h2⟩,fun j hj1 hj2=>h2.1.block j hj2 (fun ⟨a,ha⟩=>by have:=(h.own.low a j ha).2;omega)⟩
 ·subst hc
  have hd:=hP w' hb
  have hrefk:RDocO w0 w'' s.rd s.c s.v s.rows s.acts s.rrv s.rav:=hd.refAt hps
  refine (hR w'' hrefk).mono ?_
  rintro e w3 ⟨code,rfl,hi⟩
  obtain⟨rfl,rv',av',hr1,hr3,hr4⟩:=hi.ok htx (by rw [hownN];omega)
  have hmap:(putIn s.rows (newTo o.s lv o.s.size) (behindR (placesR s.c s.row lv) a)).map (·.1)=putC s.row (newC o.s lv o.s.size) (behindR (placesR s.c s.row lv) a):=putIn_map _ _ _
  refine⟨rfl,EditOk.both h hb hpd hps hr1 hr3 hr4 hmap (putC_own _ _ _ _ _) (fun i _=>log_keep (by decide)) (fun i _=>tell_ver (by decide)) (fun i _=>tell_wait (by decide)) ?_ ?_ (tellW_ok h.wok (by decide)) h.lok ?_ ?_⟩
  ·simp only [List.length_append,List.length_singleton];have:=h.acts.1;omega
  ·intro a ha
   simp only [List.mem_append,List.mem_singleton] at ha
   rcases ha with ha|rfl
   ·exact h.acts.2 a ha
   ·exact fun _=>⟨lv,rfl,hlv2⟩
  ·have:=putIn_ok (b:=behindR (placesR s.c s.row lv) a) (s:=o.s) (k:=o.s.size) h.good hlv2 (by show ownC s.row lv+o.s.size≤200;omega)
   rw [hmap] at this
   exact this.mono (Nat.le_succ k)
  ·intro x hx
   unfold putC at hx
   simp only [List.mem_append] at hx
   rcases hx with (hx|hx)|hx
   ·exact h.no35 x (List.mem_of_mem_take hx)
   ·exact newC_no35 lv htx x hx
   ·exact h.no35 x (List.mem_of_mem_drop hx)
end Go.Proofs.YtgigkiocdiffjaaGreat
