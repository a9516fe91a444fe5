import Derived.Test.YtgigkiocdiffjaaGreatE01
import Derived.Test.YtgigkiocdiffjaaGreatE07
import Derived.Test.YtgigkiocdiffjaaGreatE11
import Derived.Test.YtgigkiocdiffjaaGreatE09
import Derived.ArgAppend
import Derived.Test.YtgigkiocdiffjaaGreatE13
import Derived.Test.YtgigkiocdiffjaaGreatE19
set_option maxRecDepth 100000
set_option maxHeartbeats 16000000
namespace Go.Proofs.YtgigkiocdiffjaaGreat
open Go.RowKit Veil
def IntsAt (w:World) (g:Nat) (l:List Int):Prop:=w.heap[g]?=some (.cells (l.map (Value.int .i64)).toArray 3 (0,0))
theorem IntsAt.cell {w:World} {g:Nat} {l:List Int} (h:IntsAt w g l) (k:Nat) (hk:k<l.length):w.cell? ⟨g,k,none⟩=some (.int .i64 (l.getD k 0)):=by
 unfold IntsAt at h
 simp [World.cell?,h,hk]
theorem take_contains (l:List Int) (k:Nat) (x:Int) (hk:k<l.length):(l.take (k+1)).contains x=((l.take k).contains x || x == l.getD k 0):=by
 rw [Bool.eq_iff_iff,List.take_succ_eq_append_getElem hk]
 have e:l.getD k 0=l[k]:=by simp [hk]
 rw [e]
 simp only [List.contains_iff_mem,List.mem_append,List.mem_singleton,Bool.or_eq_true,beq_iff_eq]
theorem among_any (g:Nat) (l:List Int) (x:Int) (w:World) (h:IntsAt w g l) (hl:l.length≤1000) :
  Calls Tryz.prog 17 #[.slice (some ⟨g,0,none⟩) l.length l.length,.int .i64 x] w fun e w'=>e=.returned (.bool (l.contains x))∧w=w':=by
 go_enter Tryz.func17,Tryz.ntmps17
 go_wp2
 go_loop [5] (fun i=>∃ k:Nat,k≤l.length∧i=.int .i64 k∧(l.take k).contains x=false) (fun i=>l.length-(intOf i).toNat)
 case atStart=>exact⟨0,Nat.zero_le _,rfl,by simp⟩
 case round=>
  obtain⟨k,hk,rfl,hv⟩:=hrel
  have HV:Hid _:=hv
  clear hv
  by_cases hlt:k<l.length
  ·have hc:=h.cell k hlt
   have HT:Hid _:=take_contains l k x hlt
   have HM:Hid (l.getD k 0 ∈ l):=by show _ ∈ _;simp [hlt]
   have H:Hid _:=h
   generalize l.getD k 0=y at *
   clear h
   by_cases hy:y=x
   ·have hb:(y == x)=true:=by simpa using hy
    have HY:Hid _:=hy
    clear hy
    go_wp2
    go_ret
    exact⟨ret_bool (by have:=HM.out;rw [HY.out] at this;simpa using this),rfl⟩
   ·have hb:(y == x)=false:=by simpa using hy
    have HY:Hid (¬ y=x):=hy
    clear hy
    go_wp2
    go_round
    case rel=>exact⟨k+1,by omega,by go_num,by rw [HT.out,HV.out];simpa using fun e=>HY.out e.symm⟩
    case measure=>simp [intOf];omega
  ·have:k=l.length:=by omega
   subst this
   go_wp2
   go_ret
   exact⟨ret_bool (by have:=HV.out;rw [List.take_length] at this;simpa using this),rfl⟩
end Go.Proofs.YtgigkiocdiffjaaGreat
namespace Go.Proofs.YtgigkiocdiffjaaGreat
open Go.RowKit Veil
theorem rMatch_no (s t:ByteArray) (w:World) (hs:validB s=false) (hsl:s.size≤maxLen) :
  Calls Tryz.prog 39 #[.string s,.string t] w fun e w'=>e=.returned (.tuple #[.bool false,.int .i64 8])∧w=w':=by
 go_enter Tryz.func39,Tryz.ntmps39
 go_wp2_with fail
 refine (rpattern_any s _ hsl).mono ?_
 rintro e w' ⟨rfl,rfl⟩
 rw [hs]
 go_wp2
 go_ret2
 exact⟨rfl,rfl⟩
theorem rMatch_yes (s t:ByteArray) (w:World) (hs:validB s=true) (ht:t.size≤140737488355328) :
  Calls Tryz.prog 39 #[.string s,.string t] w fun e w'=>e=.returned (.tuple #[.bool (cutB (bytes s) (bytes t)),.int .i64 0])∧Below w.heap.size w w':=by
 have hsl:s.size≤maxLen:=by have:=validB_size hs;unfold maxLen;omega
 go_enter Tryz.func39,Tryz.ntmps39
 go_wp2_with fail
 refine (rpattern_any s _ hsl).mono ?_
 rintro e w' ⟨rfl,rfl⟩
 rw [hs]
 go_wp2_with fail
 refine (rmatch_any s t _ hsl ht).mono ?_
 rintro e w1 ⟨rfl,hb1⟩
 go_wp2
 go_ret2
 exact⟨rfl,hb1⟩
def PlainW (w:World) (g:Nat) (cs:Value):Prop:=w.heap[g]?=some (.cells #[cs,.slice none 0 0,.slice none 0 0,.slice none 0 0,.slice none 0 0] 55 (0,0))
theorem PlainW.cells {w:World} {g:Nat} {cs:Value} (h:PlainW w g cs):w.cell? ⟨g,0,none⟩=some cs∧w.cell? ⟨g,1,none⟩=some (.slice none 0 0)∧w.cell? ⟨g,2,none⟩=some (.slice none 0 0)∧w.cell? ⟨g,3,none⟩=some (.slice none 0 0)∧w.cell? ⟨g,4,none⟩=some (.slice none 0 0):=by
 unfold PlainW at h
 simp [World.cell?,h]
theorem PlainW.below {w w':World} {g B:Nat} {cs:Value} (h:PlainW w g cs) (hb:Below B w w') (hg:g<B):PlainW w' g cs:=Below.row hb h hg
theorem PlainW.lt {w:World} {g:Nat} {cs:Value} (h:PlainW w g cs):g<w.heap.size:=lt_of_row h
end Go.Proofs.YtgigkiocdiffjaaGreat
namespace Go.Proofs.YtgigkiocdiffjaaGreat
open Go.RowKit Veil
structure OpR where
 kind:Int
 a:Int
 b:Int
 c:Int
 d:Int
 e:Int
 s:ByteArray
 t:ByteArray
def OpR.cells (o:OpR):Array Value:=#[.int .i64 o.kind,.int .i64 o.a,.int .i64 o.b,.int .i64 o.c,.int .i64 o.d,.int .i64 o.e,.string o.s,.string o.t]
def OpsAt (w:World) (ao:Option Addr) (n:Nat) (ops:Nat→OpR):Prop:=
 n=0∨∃ b off,ao=some ⟨b,off,none⟩∧b<w.heap.size∧∀ i,i<n→∀ j,j<8→w.cell? ⟨b,off+i*8+j,none⟩=(ops i).cells[j]?
theorem OpsAt.cells {w w':World} {b off n:Nat} {ops:Nat→OpR} (h:∀ i,i<n→∀ j,j<8→w.cell? ⟨b,off+i*8+j,none⟩=(ops i).cells[j]?) (hb:Below w.heap.size w w') (hlt:b<w.heap.size) (k:Nat) (hk:k<n) :
  w'.cell? ⟨b,off+k*8,none⟩=some (.int .i64 (ops k).kind)∧w'.cell? ⟨b,off+k*8+1,none⟩=some (.int .i64 (ops k).a)∧w'.cell? ⟨b,off+k*8+2,none⟩=some (.int .i64 (ops k).b) ∧
  w'.cell? ⟨b,off+k*8+3,none⟩=some (.int .i64 (ops k).c)∧w'.cell? ⟨b,off+k*8+4,none⟩=some (.int .i64 (ops k).d)∧w'.cell? ⟨b,off+k*8+5,none⟩=some (.int .i64 (ops k).e) ∧
  w'.cell? ⟨b,off+k*8+6,none⟩=some (.string (ops k).s)∧w'.cell? ⟨b,off+k*8+7,none⟩=some (.string (ops k).t):=by
 have hh:∀ j,j<8→w'.cell? ⟨b,off+k*8+j,none⟩=(ops k).cells[j]?:=fun j hj=>(hb.cell (p:=⟨b,off+k*8+j,none⟩) hlt).trans (h k hk j hj)
 exact⟨hh 0 (by omega),hh 1 (by omega),hh 2 (by omega),hh 3 (by omega),hh 4 (by omega),hh 5 (by omega),hh 6 (by omega),hh 7 (by omega)⟩
theorem OpsAt.below {w w':World} {ao:Option Addr} {n:Nat} {ops:Nat→OpR} (h:OpsAt w ao n ops) (hb:Below w.heap.size w w'):OpsAt w' ao n ops:=by
 rcases h with h|⟨b,off,h1,h2,h3⟩
 ·exact Or.inl h
 ·exact Or.inr ⟨b,off,h1,Nat.lt_of_lt_of_le h2 hb.size,fun i hi j hj=>(hb.cell (p:=⟨b,off+i*8+j,none⟩) h2).trans (h3 i hi j hj)⟩
theorem IntsAt.below {w w':World} {g:Nat} {l:List Int} {B:Nat} (h:IntsAt w g l) (hb:Below B w w') (hg:g<B):IntsAt w' g l:=Below.row hb h hg
theorem IntsAt.lt {w:World} {g:Nat} {l:List Int} (h:IntsAt w g l):g<w.heap.size:=lt_of_row h
end Go.Proofs.YtgigkiocdiffjaaGreat
namespace Go.Proofs.YtgigkiocdiffjaaGreat
open Go.RowKit Veil
structure PlayInv (w:World) (n:Nat) (ops:Nat→OpR) (Lp Lh:List Int) (Inv:Nat→Nat→(Nat→Prop)→World→Prop):Prop where
 low:∀ g k F w',Inv g k F w'→Below w.heap.size w w'∧g<w'.heap.size∧∀ b,F b→w.heap.size≤b∧b<w'.heap.size
 frame:∀ g k F w' w'',Inv g k F w'→Below w'.heap.size w' w''→Inv g k F w''
 skip:∀ g k F w',Inv g k F w'→Inv g (k+1) F w'
 step:∀ g k F w',k<n→Lp.contains (ops k).kind=true→Inv g k F w'→Calls Tryz.prog 18 #[.pointer (some ⟨g,0,none⟩),.agg (ops k).cells] w'
  fun e w''=>∃ r F',e=.returned (.bool r)∧((Lh.contains (ops k).kind=true∨(ops k).kind=6)→r=true)∧Inv g (k+1) F' w''∧Only F w' w''∧∀ b,F' b→F b∨w'.heap.size≤b
 looks:∀ g k F w',Inv g k F w'→Calls Tryz.prog 19 #[.pointer (some ⟨g,0,none⟩)] w' fun e w''=>e=.returned (.bool true)∧Below w'.heap.size w' w''
theorem plays_inv (co:Option Addr) (cn cc:Nat) (ao:Option Addr) (n cap:Nat) (ops:Nat→OpR) (gp gh:Nat) (Lp Lh:List Int) (w:World) (Inv:Nat→Nat→(Nat→Prop)→World→Prop) (hops:OpsAt w ao n ops) (hn:n≤140737488355328)
  (hp:IntsAt w gp Lp) (hh:IntsAt w gh Lh) (hLp:Lp.length≤1000) (hLh:Lh.length≤1000) (hI:PlayInv w n ops Lp Lh Inv) (hstart:∃ F,Inv w.heap.size 0 F (w.alloc (.cells #[.slice co cn cc,.slice none 0 0,.slice none 0 0,.slice none 0 0,.slice none 0 0] 55))) :
  Calls Tryz.prog 12 #[.slice co cn cc,.slice ao n cap,.slice (some ⟨gp,0,none⟩) Lp.length Lp.length,.slice (some ⟨gh,0,none⟩) Lh.length Lh.length] w fun e w'=>e=.returned (.bool true)∧Below w.heap.size w w':=by
 rcases hops with rfl|⟨b,off,rfl,hblt,hcells⟩
 ·have HP:=hide hp
  have HH:=hide hh
  have HI:=hide hI
  have HST:=hide hstart
  clear hp hh hI hstart
  go_enter Tryz.func12,Tryz.ntmps12
  go_wp2
  refine wp_loop_rounds 1 ?_
  rw [rounds_succ]
  go_wp2
  go_ret
  exact⟨rfl,(Below.refl _ _).alloc (Nat.le_refl _) _⟩
 have HP:=hide hp
 have HH:=hide hh
 have HI:=hide hI
 have HC:=hide hcells
 have HST:=hide hstart
 clear hp hh hI hcells hstart
 go_enter Tryz.func12,Tryz.ntmps12
 go_wp2
 go_loopw [10] (fun i wr=>∃ k:Nat,k≤n∧i=.int .i64 k∧∃ F,Inv w.heap.size k F wr) (fun i _=>n-(intOf i).toNat)
 case atStart=>exact⟨0,Nat.zero_le _,rfl,HST.out⟩
 case round=>
  obtain⟨wo,rfl⟩:∃ x,x=wr:=⟨_,rfl⟩
  obtain⟨k,hk,rfl,F,hinv⟩:=hrel
  obtain⟨hbel,hgl,hF⟩:=HI.out.low _ _ _ _ hinv
  have HIN:=hide hinv
  have HFF:=hide hF
  clear hinv hF
  by_cases hlt:k<n
  ·obtain⟨c0,c1,c2,c3,c4,c5,c6,c7⟩:=OpsAt.cells HC.out hbel hblt k hlt
   have h57:(k:Int)<144115188075855872:=by omega
   have h58:decide ((k:Int)<144115188075855872)=true:=decide_eq_true h57
   have HB2:=hide (show ∀ o,Below w.heap.size w (wo.alloc o) from fun o=>hbel.alloc hbel.size o)
   have HB1:=hide (show ∀ o,Below wo.heap.size wo (wo.alloc o) from fun o=>below_box wo o)
   have HIA:=hide (fun o=>HI.out.frame _ _ _ _ _ HIN.out (HB1.out o))
   cases hin:Lp.contains (ops k).kind
   ·go_wp2_with fail
    refine (among_any gp Lp (ops k).kind _ (HP.out.below (HB2.out _) HP.out.lt) hLp).mono ?_
    rintro e w' ⟨rfl,rfl⟩
    rw [hin]
    go_wp2
    go_roundw
    case rel=>exact⟨k+1,by omega,by go_num,F,HI.out.skip _ _ _ _ (HIA.out _)⟩
    case measure=>simp [intOf];omega
   ·have HSTEP:=hide (fun o=>HI.out.step _ _ _ _ hlt hin (HIA.out o))
    go_wp2_with fail
    refine (among_any gp Lp (ops k).kind _ (HP.out.below (HB2.out _) HP.out.lt) hLp).mono ?_
    rintro e w' ⟨rfl,rfl⟩
    rw [hin]
    go_wp2_with fail
    refine (HSTEP.out _).mono ?_
    rintro e w2 ⟨r,F',rfl,hr,hinv2,honly,hfoot⟩
    have HR:=hide hr
    have HI2:=hide hinv2
    have hb3:=(HI.out.low _ _ _ _ hinv2).1
    have hk2:w2.cell? ⟨wo.heap.size,0,none⟩=some (.int .i64 (ops k).kind):=by
     rw [World.cell?_of_block (a:=⟨wo.heap.size,0,none⟩) (honly.block wo.heap.size (by simp) (fun hf=>by have:=(HFF.out _ hf).2;omega))]
     simp
    have HB3:=hide hb3
    have HLK:=hide (HI.out.looks _ _ _ _ hinv2)
    clear hr hinv2 honly hfoot hb3 c0 c1 c2 c3 c4 c5 c6 c7
    go_wp2_with fail
    refine (among_any gh Lh (ops k).kind _ (HH.out.below HB3.out HH.out.lt) hLh).mono ?_
    rintro e w' ⟨rfl,rfl⟩
    cases r
    ·have hnh:Lh.contains (ops k).kind=false:=by
      cases h:Lh.contains (ops k).kind with
      | false=>rfl
      | true=>exact absurd (HR.out (Or.inl h)) (by decide)
     have hn6:((ops k).kind == 6)=false:=by
      cases h:((ops k).kind == 6) with
      | false=>rfl
      | true=>exact absurd (HR.out (Or.inr (by simpa using h))) (by decide)
     rw [hnh]
     go_wp2_with fail
     refine (HLK.out).mono ?_
     rintro e w5 ⟨rfl,hb5⟩
     have HI5:=hide (HI.out.frame _ _ _ _ _ HI2.out hb5)
     clear hb5
     go_wp2
     go_roundw
     case rel=>exact⟨k+1,by omega,by go_num,F',HI5.out⟩
     case measure=>simp [intOf];omega
    ·go_wp2_with fail
     refine (HLK.out).mono ?_
     rintro e w5 ⟨rfl,hb5⟩
     have HI5:=hide (HI.out.frame _ _ _ _ _ HI2.out hb5)
     clear hb5
     go_wp2
     go_roundw
     case rel=>exact⟨k+1,by omega,by go_num,F',HI5.out⟩
     case measure=>simp [intOf];omega
  ·go_wp2
   go_ret
   exact⟨rfl,hbel⟩
end Go.Proofs.YtgigkiocdiffjaaGreat
namespace Go.Proofs.YtgigkiocdiffjaaGreat
open Go.RowKit Veil
def pairC (pd rd:Nat):Array Value:=#[.pointer (some ⟨pd,0,none⟩),.pointer (some ⟨rd,0,none⟩)]
theorem toList_self (s:ByteArray):(s.toList == s.toList)=true:=by simp
theorem looked_view (pd rd:Nat) (o:OpR) (s:ByteArray) (code:Int) (w:World) (hk:o.kind=9)
  (hP:∀ w',Below w.heap.size w w'→Calls Tryz.prog 23 #[.pointer (some ⟨pd,0,none⟩),.int .i64 o.b] w' fun e w''=>e=.returned (.tuple #[.string s,.int .i64 code])∧Below w'.heap.size w' w'')
  (hR:∀ w',Below w.heap.size w w'→Calls Tryz.prog 136 #[.pointer (some ⟨rd,0,none⟩),.int .i64 o.b] w' fun e w''=>e=.returned (.tuple #[.string s,.int .i64 code])∧Below w'.heap.size w' w'') :
  Calls Tryz.prog 97 #[.agg (pairC pd rd),.agg o.cells] w fun e w'=>e=.returned (.bool true)∧Below w.heap.size w w':=by
 have HP:=hide hP
 have HR:=hide hR
 clear hP hR
 obtain⟨kind,a,b,cc,d,e0,s0,t0⟩:=o
 simp only at hk HP HR
 subst hk
 unfold OpR.cells pairC
 simp only
 have hb0:Below w.heap.size w ((w.alloc (.cells #[.pointer (some ⟨pd,0,none⟩),.pointer (some ⟨rd,0,none⟩)] 92)).alloc (.cells #[.int .i64 9,.int .i64 a,.int .i64 b,.int .i64 cc,.int .i64 d,.int .i64 e0,.string s0,.string t0] 57)):=(below_box w _).alloc (by simp) _
 have HN1:=hide (heap_alloc2_old w (.cells #[.pointer (some ⟨pd,0,none⟩),.pointer (some ⟨rd,0,none⟩)] 92) (.cells #[.int .i64 9,.int .i64 a,.int .i64 b,.int .i64 cc,.int .i64 d,.int .i64 e0,.string s0,.string t0] 57))
 have HN2:=hide (heap_alloc2_new w (.cells #[.pointer (some ⟨pd,0,none⟩),.pointer (some ⟨rd,0,none⟩)] 92) (.cells #[.int .i64 9,.int .i64 a,.int .i64 b,.int .i64 cc,.int .i64 d,.int .i64 e0,.string s0,.string t0] 57))
 go_enter Tryz.func97,Tryz.ntmps97
 go_wp2_with fail
 refine (HP.out _ hb0).mono ?_
 rintro e w1 ⟨rfl,hb1⟩
 have hbel1:=hb0.trans (hb1.mono hb0.size)
 have x1:w1.cell? ⟨w.heap.size,1,none⟩=some (.pointer (some ⟨rd,0,none⟩)):=(cell_of_row _ _ _ _ _ _ (Below.row hb1 HN1.out (lt_of_row HN1.out))).trans rfl
 have x2:w1.cell? ⟨w.heap.size+1,2,none⟩=some (.int .i64 b):=(cell_of_row _ _ _ _ _ _ (Below.row hb1 HN2.out (lt_of_row HN2.out))).trans rfl
 clear hb1
 go_wp2_with fail
 refine (HR.out _ hbel1).mono ?_
 rintro e w2 ⟨rfl,hb2⟩
 have hbel2:=hbel1.trans (hb2.mono hbel1.size)
 clear hb2 x1 x2
 have hss:=toList_self s
 go_wp2
 go_ret
 exact⟨rfl,hbel2⟩
theorem looked_left (pd rd:Nat) (o:OpR) (x:Int) (code:Int) (w:World) (hk:o.kind=12)
  (hP:∀ w',Below w.heap.size w w'→Calls Tryz.prog 30 #[.pointer (some ⟨pd,0,none⟩),.int .i64 o.b] w' fun e w''=>e=.returned (.tuple #[.int .i64 x,.int .i64 code])∧Below w'.heap.size w' w'')
  (hR:∀ w',Below w.heap.size w w'→Calls Tryz.prog 141 #[.pointer (some ⟨rd,0,none⟩),.int .i64 o.b] w' fun e w''=>e=.returned (.tuple #[.int .i64 x,.int .i64 code])∧Below w'.heap.size w' w'') :
  Calls Tryz.prog 97 #[.agg (pairC pd rd),.agg o.cells] w fun e w'=>e=.returned (.bool true)∧Below w.heap.size w w':=by
 have HP:=hide hP
 have HR:=hide hR
 clear hP hR
 obtain⟨kind,a,b,cc,d,e0,s0,t0⟩:=o
 simp only at hk HP HR
 subst hk
 unfold OpR.cells pairC
 simp only
 have hb0:Below w.heap.size w ((w.alloc (.cells #[.pointer (some ⟨pd,0,none⟩),.pointer (some ⟨rd,0,none⟩)] 92)).alloc (.cells #[.int .i64 12,.int .i64 a,.int .i64 b,.int .i64 cc,.int .i64 d,.int .i64 e0,.string s0,.string t0] 57)):=(below_box w _).alloc (by simp) _
 have HN1:=hide (heap_alloc2_old w (.cells #[.pointer (some ⟨pd,0,none⟩),.pointer (some ⟨rd,0,none⟩)] 92) (.cells #[.int .i64 12,.int .i64 a,.int .i64 b,.int .i64 cc,.int .i64 d,.int .i64 e0,.string s0,.string t0] 57))
 have HN2:=hide (heap_alloc2_new w (.cells #[.pointer (some ⟨pd,0,none⟩),.pointer (some ⟨rd,0,none⟩)] 92) (.cells #[.int .i64 12,.int .i64 a,.int .i64 b,.int .i64 cc,.int .i64 d,.int .i64 e0,.string s0,.string t0] 57))
 go_enter Tryz.func97,Tryz.ntmps97
 go_wp2_with fail
 refine (HP.out _ hb0).mono ?_
 rintro e w1 ⟨rfl,hb1⟩
 have hbel1:=hb0.trans (hb1.mono hb0.size)
 have x1:w1.cell? ⟨w.heap.size,1,none⟩=some (.pointer (some ⟨rd,0,none⟩)):=(cell_of_row _ _ _ _ _ _ (Below.row hb1 HN1.out (lt_of_row HN1.out))).trans rfl
 have x2:w1.cell? ⟨w.heap.size+1,2,none⟩=some (.int .i64 b):=(cell_of_row _ _ _ _ _ _ (Below.row hb1 HN2.out (lt_of_row HN2.out))).trans rfl
 clear hb1
 go_wp2_with fail
 refine (HR.out _ hbel1).mono ?_
 rintro e w2 ⟨rfl,hb2⟩
 have hbel2:=hbel1.trans (hb2.mono hbel1.size)
 clear hb2 x1 x2
 go_wp2
 go_ret
 exact⟨rfl,hbel2⟩
theorem looked_version (pd rd:Nat) (o:OpR) (x:Int) (code:Int) (w:World) (hk:o.kind=16)
  (hP:∀ w',Below w.heap.size w w'→Calls Tryz.prog 31 #[.pointer (some ⟨pd,0,none⟩),.int .i64 o.b] w' fun e w''=>e=.returned (.tuple #[.int .i64 x,.int .i64 code])∧Below w'.heap.size w' w'')
  (hR:∀ w',Below w.heap.size w w'→Calls Tryz.prog 142 #[.pointer (some ⟨rd,0,none⟩),.int .i64 o.b] w' fun e w''=>e=.returned (.tuple #[.int .i64 x,.int .i64 code])∧Below w'.heap.size w' w'') :
  Calls Tryz.prog 97 #[.agg (pairC pd rd),.agg o.cells] w fun e w'=>e=.returned (.bool true)∧Below w.heap.size w w':=by
 have HP:=hide hP
 have HR:=hide hR
 clear hP hR
 obtain⟨kind,a,b,cc,d,e0,s0,t0⟩:=o
 simp only at hk HP HR
 subst hk
 unfold OpR.cells pairC
 simp only
 have hb0:Below w.heap.size w ((w.alloc (.cells #[.pointer (some ⟨pd,0,none⟩),.pointer (some ⟨rd,0,none⟩)] 92)).alloc (.cells #[.int .i64 16,.int .i64 a,.int .i64 b,.int .i64 cc,.int .i64 d,.int .i64 e0,.string s0,.string t0] 57)):=(below_box w _).alloc (by simp) _
 have HN1:=hide (heap_alloc2_old w (.cells #[.pointer (some ⟨pd,0,none⟩),.pointer (some ⟨rd,0,none⟩)] 92) (.cells #[.int .i64 16,.int .i64 a,.int .i64 b,.int .i64 cc,.int .i64 d,.int .i64 e0,.string s0,.string t0] 57))
 have HN2:=hide (heap_alloc2_new w (.cells #[.pointer (some ⟨pd,0,none⟩),.pointer (some ⟨rd,0,none⟩)] 92) (.cells #[.int .i64 16,.int .i64 a,.int .i64 b,.int .i64 cc,.int .i64 d,.int .i64 e0,.string s0,.string t0] 57))
 go_enter Tryz.func97,Tryz.ntmps97
 go_wp2_with fail
 refine (HP.out _ hb0).mono ?_
 rintro e w1 ⟨rfl,hb1⟩
 have hbel1:=hb0.trans (hb1.mono hb0.size)
 have x1:w1.cell? ⟨w.heap.size,1,none⟩=some (.pointer (some ⟨rd,0,none⟩)):=(cell_of_row _ _ _ _ _ _ (Below.row hb1 HN1.out (lt_of_row HN1.out))).trans rfl
 have x2:w1.cell? ⟨w.heap.size+1,2,none⟩=some (.int .i64 b):=(cell_of_row _ _ _ _ _ _ (Below.row hb1 HN2.out (lt_of_row HN2.out))).trans rfl
 clear hb1
 go_wp2_with fail
 refine (HR.out _ hbel1).mono ?_
 rintro e w2 ⟨rfl,hb2⟩
 have hbel2:=hbel1.trans (hb2.mono hbel1.size)
 clear hb2 x1 x2
 go_wp2
 go_ret
 exact⟨rfl,hbel2⟩
end Go.Proofs.YtgigkiocdiffjaaGreat
namespace Go.Proofs.YtgigkiocdiffjaaGreat
open Go.RowKit Veil
theorem edited_insert (pd rd:Nat) (o:OpR) (A:World→World→Int→Prop) (C:World→Prop) (w:World) (hk:o.kind=7)
  (hP:∀ w',Below w.heap.size w w'→Calls Tryz.prog 24 #[.pointer (some ⟨pd,0,none⟩),.int .i64 o.b,.int .i64 o.c,.string o.s] w' fun e w''=>∃ code,e=.returned (.int .i64 code)∧A w' w'' code∧∀ k,w.heap.size≤k→k<w'.heap.size→w''.heap[k]?=w'.heap[k]?)
  (hR:∀ w' w'' code,Below w.heap.size w w'→A w' w'' code→Calls Tryz.prog 132 #[.pointer (some ⟨rd,0,none⟩),.int .i64 o.b,.int .i64 o.c,.string o.s] w'' fun e w3=>e=.returned (.int .i64 code)∧C w3) :
  Calls Tryz.prog 90 #[.agg (pairC pd rd),.agg o.cells] w fun e w'=>e=.returned (.bool true)∧C w':=by
 have HP:=hide hP
 have HR:=hide hR
 clear hP hR
 obtain⟨kind,a,b,cc,d,e0,s0,t0⟩:=o
 simp only at hk HP HR
 subst hk
 unfold OpR.cells pairC
 simp only
 have hb0:Below w.heap.size w ((w.alloc (.cells #[.pointer (some ⟨pd,0,none⟩),.pointer (some ⟨rd,0,none⟩)] 92)).alloc (.cells #[.int .i64 7,.int .i64 a,.int .i64 b,.int .i64 cc,.int .i64 d,.int .i64 e0,.string s0,.string t0] 57)):=(below_box w _).alloc (by simp) _
 have HN1:=hide (heap_alloc2_old w (.cells #[.pointer (some ⟨pd,0,none⟩),.pointer (some ⟨rd,0,none⟩)] 92) (.cells #[.int .i64 7,.int .i64 a,.int .i64 b,.int .i64 cc,.int .i64 d,.int .i64 e0,.string s0,.string t0] 57))
 have HN2:=hide (heap_alloc2_new w (.cells #[.pointer (some ⟨pd,0,none⟩),.pointer (some ⟨rd,0,none⟩)] 92) (.cells #[.int .i64 7,.int .i64 a,.int .i64 b,.int .i64 cc,.int .i64 d,.int .i64 e0,.string s0,.string t0] 57))
 go_enter Tryz.func90,Tryz.ntmps90
 go_wp2_with fail
 refine (HP.out _ hb0).mono ?_
 rintro e w1 ⟨code,rfl,hA,hkeep⟩
 have HA:=hide hA
 have HM1:=hide ((hkeep w.heap.size (Nat.le_refl _) (by simp;omega)).trans HN1.out)
 have HM2:=hide ((hkeep (w.heap.size+1) (by omega) (by simp)).trans HN2.out)
 have x1:w1.cell? ⟨w.heap.size,1,none⟩=some (.pointer (some ⟨rd,0,none⟩)):=(cell_of_row _ _ _ _ _ _ HM1.out).trans rfl
 have x2:w1.cell? ⟨w.heap.size+1,2,none⟩=some (.int .i64 b):=(cell_of_row _ _ _ _ _ _ HM2.out).trans rfl
 have x3:w1.cell? ⟨w.heap.size+1,3,none⟩=some (.int .i64 cc):=(cell_of_row _ _ _ _ _ _ HM2.out).trans rfl
 have x4:w1.cell? ⟨w.heap.size+1,4,none⟩=some (.int .i64 d):=(cell_of_row _ _ _ _ _ _ HM2.out).trans rfl
 have x5:w1.cell? ⟨w.heap.size+1,5,none⟩=some (.int .i64 e0):=(cell_of_row _ _ _ _ _ _ HM2.out).trans rfl
 have x6:w1.cell? ⟨w.heap.size+1,6,none⟩=some (.string s0):=(cell_of_row _ _ _ _ _ _ HM2.out).trans rfl
 clear hA hkeep
 go_wp2_with fail
 refine (HR.out _ _ _ hb0 HA.out).mono ?_
 rintro e w2 ⟨rfl,hC⟩
 have HC:=hide hC
 clear hC x1 x2 x3 x4 x5 x6
 go_wp2
 go_ret
 exact⟨rfl,HC.out⟩
theorem edited_delete (pd rd:Nat) (o:OpR) (A:World→World→Int→Prop) (C:World→Prop) (w:World) (hk:o.kind=8)
  (hP:∀ w',Below w.heap.size w w'→Calls Tryz.prog 25 #[.pointer (some ⟨pd,0,none⟩),.int .i64 o.b,.int .i64 o.c,.int .i64 o.d] w' fun e w''=>∃ code,e=.returned (.int .i64 code)∧A w' w'' code∧∀ k,w.heap.size≤k→k<w'.heap.size→w''.heap[k]?=w'.heap[k]?)
  (hR:∀ w' w'' code,Below w.heap.size w w'→A w' w'' code→Calls Tryz.prog 133 #[.pointer (some ⟨rd,0,none⟩),.int .i64 o.b,.int .i64 o.c,.int .i64 o.d] w'' fun e w3=>e=.returned (.int .i64 code)∧C w3) :
  Calls Tryz.prog 90 #[.agg (pairC pd rd),.agg o.cells] w fun e w'=>e=.returned (.bool true)∧C w':=by
 have HP:=hide hP
 have HR:=hide hR
 clear hP hR
 obtain⟨kind,a,b,cc,d,e0,s0,t0⟩:=o
 simp only at hk HP HR
 subst hk
 unfold OpR.cells pairC
 simp only
 have hb0:Below w.heap.size w ((w.alloc (.cells #[.pointer (some ⟨pd,0,none⟩),.pointer (some ⟨rd,0,none⟩)] 92)).alloc (.cells #[.int .i64 8,.int .i64 a,.int .i64 b,.int .i64 cc,.int .i64 d,.int .i64 e0,.string s0,.string t0] 57)):=(below_box w _).alloc (by simp) _
 have HN1:=hide (heap_alloc2_old w (.cells #[.pointer (some ⟨pd,0,none⟩),.pointer (some ⟨rd,0,none⟩)] 92) (.cells #[.int .i64 8,.int .i64 a,.int .i64 b,.int .i64 cc,.int .i64 d,.int .i64 e0,.string s0,.string t0] 57))
 have HN2:=hide (heap_alloc2_new w (.cells #[.pointer (some ⟨pd,0,none⟩),.pointer (some ⟨rd,0,none⟩)] 92) (.cells #[.int .i64 8,.int .i64 a,.int .i64 b,.int .i64 cc,.int .i64 d,.int .i64 e0,.string s0,.string t0] 57))
 go_enter Tryz.func90,Tryz.ntmps90
 go_wp2_with fail
 refine (HP.out _ hb0).mono ?_
 rintro e w1 ⟨code,rfl,hA,hkeep⟩
 have HA:=hide hA
 have HM1:=hide ((hkeep w.heap.size (Nat.le_refl _) (by simp;omega)).trans HN1.out)
 have HM2:=hide ((hkeep (w.heap.size+1) (by omega) (by simp)).trans HN2.out)
 have x1:w1.cell? ⟨w.heap.size,1,none⟩=some (.pointer (some ⟨rd,0,none⟩)):=(cell_of_row _ _ _ _ _ _ HM1.out).trans rfl
 have x2:w1.cell? ⟨w.heap.size+1,2,none⟩=some (.int .i64 b):=(cell_of_row _ _ _ _ _ _ HM2.out).trans rfl
 have x3:w1.cell? ⟨w.heap.size+1,3,none⟩=some (.int .i64 cc):=(cell_of_row _ _ _ _ _ _ HM2.out).trans rfl
 have x4:w1.cell? ⟨w.heap.size+1,4,none⟩=some (.int .i64 d):=(cell_of_row _ _ _ _ _ _ HM2.out).trans rfl
 have x5:w1.cell? ⟨w.heap.size+1,5,none⟩=some (.int .i64 e0):=(cell_of_row _ _ _ _ _ _ HM2.out).trans rfl
 have x6:w1.cell? ⟨w.heap.size+1,6,none⟩=some (.string s0):=(cell_of_row _ _ _ _ _ _ HM2.out).trans rfl
 clear hA hkeep
 go_wp2_with fail
 refine (HR.out _ _ _ hb0 HA.out).mono ?_
 rintro e w2 ⟨rfl,hC⟩
 have HC:=hide hC
 clear hC x1 x2 x3 x4 x5 x6
 go_wp2
 go_ret
 exact⟨rfl,HC.out⟩
theorem edited_raise (pd rd:Nat) (o:OpR) (A:World→World→Int→Prop) (C:World→Prop) (w:World) (hk:o.kind=13)
  (hP:∀ w',Below w.heap.size w w'→Calls Tryz.prog 26 #[.pointer (some ⟨pd,0,none⟩),.int .i64 o.b,.int .i64 o.c,.int .i64 o.d,.int .i64 o.e] w' fun e w''=>∃ code,e=.returned (.int .i64 code)∧A w' w'' code∧∀ k,w.heap.size≤k→k<w'.heap.size→w''.heap[k]?=w'.heap[k]?)
  (hR:∀ w' w'' code,Below w.heap.size w w'→A w' w'' code→Calls Tryz.prog 134 #[.pointer (some ⟨rd,0,none⟩),.int .i64 o.b,.int .i64 o.c,.int .i64 o.d,.int .i64 o.e] w'' fun e w3=>e=.returned (.int .i64 code)∧C w3) :
  Calls Tryz.prog 90 #[.agg (pairC pd rd),.agg o.cells] w fun e w'=>e=.returned (.bool true)∧C w':=by
 have HP:=hide hP
 have HR:=hide hR
 clear hP hR
 obtain⟨kind,a,b,cc,d,e0,s0,t0⟩:=o
 simp only at hk HP HR
 subst hk
 unfold OpR.cells pairC
 simp only
 have hb0:Below w.heap.size w ((w.alloc (.cells #[.pointer (some ⟨pd,0,none⟩),.pointer (some ⟨rd,0,none⟩)] 92)).alloc (.cells #[.int .i64 13,.int .i64 a,.int .i64 b,.int .i64 cc,.int .i64 d,.int .i64 e0,.string s0,.string t0] 57)):=(below_box w _).alloc (by simp) _
 have HN1:=hide (heap_alloc2_old w (.cells #[.pointer (some ⟨pd,0,none⟩),.pointer (some ⟨rd,0,none⟩)] 92) (.cells #[.int .i64 13,.int .i64 a,.int .i64 b,.int .i64 cc,.int .i64 d,.int .i64 e0,.string s0,.string t0] 57))
 have HN2:=hide (heap_alloc2_new w (.cells #[.pointer (some ⟨pd,0,none⟩),.pointer (some ⟨rd,0,none⟩)] 92) (.cells #[.int .i64 13,.int .i64 a,.int .i64 b,.int .i64 cc,.int .i64 d,.int .i64 e0,.string s0,.string t0] 57))
 go_enter Tryz.func90,Tryz.ntmps90
 go_wp2_with fail
 refine (HP.out _ hb0).mono ?_
 rintro e w1 ⟨code,rfl,hA,hkeep⟩
 have HA:=hide hA
 have HM1:=hide ((hkeep w.heap.size (Nat.le_refl _) (by simp;omega)).trans HN1.out)
 have HM2:=hide ((hkeep (w.heap.size+1) (by omega) (by simp)).trans HN2.out)
 have x1:w1.cell? ⟨w.heap.size,1,none⟩=some (.pointer (some ⟨rd,0,none⟩)):=(cell_of_row _ _ _ _ _ _ HM1.out).trans rfl
 have x2:w1.cell? ⟨w.heap.size+1,2,none⟩=some (.int .i64 b):=(cell_of_row _ _ _ _ _ _ HM2.out).trans rfl
 have x3:w1.cell? ⟨w.heap.size+1,3,none⟩=some (.int .i64 cc):=(cell_of_row _ _ _ _ _ _ HM2.out).trans rfl
 have x4:w1.cell? ⟨w.heap.size+1,4,none⟩=some (.int .i64 d):=(cell_of_row _ _ _ _ _ _ HM2.out).trans rfl
 have x5:w1.cell? ⟨w.heap.size+1,5,none⟩=some (.int .i64 e0):=(cell_of_row _ _ _ _ _ _ HM2.out).trans rfl
 have x6:w1.cell? ⟨w.heap.size+1,6,none⟩=some (.string s0):=(cell_of_row _ _ _ _ _ _ HM2.out).trans rfl
 clear hA hkeep
 go_wp2_with fail
 refine (HR.out _ _ _ hb0 HA.out).mono ?_
 rintro e w2 ⟨rfl,hC⟩
 have HC:=hide hC
 clear hC x1 x2 x3 x4 x5 x6
 go_wp2
 go_ret
 exact⟨rfl,HC.out⟩
theorem edited_release (pd rd:Nat) (o:OpR) (A:World→World→Int→Prop) (C:World→Prop) (w:World) (hk:o.kind=14)
  (hP:∀ w',Below w.heap.size w w'→Calls Tryz.prog 27 #[.pointer (some ⟨pd,0,none⟩),.int .i64 o.b,.int .i64 o.c,.int .i64 o.d,.int .i64 o.e] w' fun e w''=>∃ code,e=.returned (.int .i64 code)∧A w' w'' code∧∀ k,w.heap.size≤k→k<w'.heap.size→w''.heap[k]?=w'.heap[k]?)
  (hR:∀ w' w'' code,Below w.heap.size w w'→A w' w'' code→Calls Tryz.prog 135 #[.pointer (some ⟨rd,0,none⟩),.int .i64 o.b,.int .i64 o.c,.int .i64 o.d,.int .i64 o.e] w'' fun e w3=>e=.returned (.int .i64 code)∧C w3) :
  Calls Tryz.prog 90 #[.agg (pairC pd rd),.agg o.cells] w fun e w'=>e=.returned (.bool true)∧C w':=by
 have HP:=hide hP
 have HR:=hide hR
 clear hP hR
 obtain⟨kind,a,b,cc,d,e0,s0,t0⟩:=o
 simp only at hk HP HR
 subst hk
 unfold OpR.cells pairC
 simp only
 have hb0:Below w.heap.size w ((w.alloc (.cells #[.pointer (some ⟨pd,0,none⟩),.pointer (some ⟨rd,0,none⟩)] 92)).alloc (.cells #[.int .i64 14,.int .i64 a,.int .i64 b,.int .i64 cc,.int .i64 d,.int .i64 e0,.string s0,.string t0] 57)):=(below_box w _).alloc (by simp) _
 have HN1:=hide (heap_alloc2_old w (.cells #[.pointer (some ⟨pd,0,none⟩),.pointer (some ⟨rd,0,none⟩)] 92) (.cells #[.int .i64 14,.int .i64 a,.int .i64 b,.int .i64 cc,.int .i64 d,.int .i64 e0,.string s0,.string t0] 57))
 have HN2:=hide (heap_alloc2_new w (.cells #[.pointer (some ⟨pd,0,none⟩),.pointer (some ⟨rd,0,none⟩)] 92) (.cells #[.int .i64 14,.int .i64 a,.int .i64 b,.int .i64 cc,.int .i64 d,.int .i64 e0,.string s0,.string t0] 57))
 go_enter Tryz.func90,Tryz.ntmps90
 go_wp2_with fail
 refine (HP.out _ hb0).mono ?_
 rintro e w1 ⟨code,rfl,hA,hkeep⟩
 have HA:=hide hA
 have HM1:=hide ((hkeep w.heap.size (Nat.le_refl _) (by simp;omega)).trans HN1.out)
 have HM2:=hide ((hkeep (w.heap.size+1) (by omega) (by simp)).trans HN2.out)
 have x1:w1.cell? ⟨w.heap.size,1,none⟩=some (.pointer (some ⟨rd,0,none⟩)):=(cell_of_row _ _ _ _ _ _ HM1.out).trans rfl
 have x2:w1.cell? ⟨w.heap.size+1,2,none⟩=some (.int .i64 b):=(cell_of_row _ _ _ _ _ _ HM2.out).trans rfl
 have x3:w1.cell? ⟨w.heap.size+1,3,none⟩=some (.int .i64 cc):=(cell_of_row _ _ _ _ _ _ HM2.out).trans rfl
 have x4:w1.cell? ⟨w.heap.size+1,4,none⟩=some (.int .i64 d):=(cell_of_row _ _ _ _ _ _ HM2.out).trans rfl
 have x5:w1.cell? ⟨w.heap.size+1,5,none⟩=some (.int .i64 e0):=(cell_of_row _ _ _ _ _ _ HM2.out).trans rfl
 have x6:w1.cell? ⟨w.heap.size+1,6,none⟩=some (.string s0):=(cell_of_row _ _ _ _ _ _ HM2.out).trans rfl
 clear hA hkeep
 go_wp2_with fail
 refine (HR.out _ _ _ hb0 HA.out).mono ?_
 rintro e w2 ⟨rfl,hC⟩
 have HC:=hide hC
 clear hC x1 x2 x3 x4 x5 x6
 go_wp2
 go_ret
 exact⟨rfl,HC.out⟩
end Go.Proofs.YtgigkiocdiffjaaGreat
namespace Go.Proofs.YtgigkiocdiffjaaGreat
open Go.RowKit Veil
section
variable {α:Type} {e:TypeId} {sz:Nat} {f:α→List Value} {w w':World} {B:Nat} {v:Value} {l:List α}
theorem OwnL.prefix {nw:List α} {g cap:Nat} (hf:∀ a,(f a).length=sz) (h:OwnL e sz f w B (.slice (some ⟨g,0,none⟩) (l++nw).length cap) (l++nw)):OwnL e sz f w B (.slice (some ⟨g,0,none⟩) l.length cap) l:=by
 have hlen:(l.flatMap f).length=l.length*sz:=by
  clear h
  induction l with
  | nil=>simp
  | cons a t ih=>simp only [List.flatMap_cons,List.length_append,hf,ih,List.length_cons,Nat.add_mul];omega
 refine⟨hlen,?_⟩
 rcases h.2 with⟨h1,h2⟩|⟨g',cap',cur,h1,h2,h3,h4,h5,h6,h7⟩
 ·cases h1
 ·refine Or.inr ⟨g',cap',cur,?_,h2,h3,?_,h5,h6,?_⟩
  ·simp only [Value.slice.injEq] at h1
   rw [h1.1,h1.2.2]
  ·rw [List.length_append] at h4;omega
  ·rw [List.flatMap_append] at h7
   have:=congrArg (List.take (l.flatMap f).length) h7
   have e2:l.length*sz≤(l++nw).length*sz:=Nat.mul_le_mul_right _ (by rw [List.length_append];omega)
   rw [List.take_take,List.take_left,hlen,Nat.min_eq_left e2] at this
   exact this
theorem wpList_both {P:Program} {ops:Array Oper} {rest:List Oper} {o:Oper} {act:Act} {Q:Exit→Act→World→Prop} (hgd:o.guard=none) (s x:Operand) (t:TypeId)
  (ho:o.op=.call { callee:=.builtin .append,args:=#[s,x],argTypes:=#[t,t] }) (z:Value) (bytes:Nat) (ht:P.underlying t=some (.slice e)) (hinfo:(P.info? e).map (fun i=>(i.zero,i.size,i.bytes))=some (some z,sz,bytes)) (hzs:z.cells.size=sz) (hsz:0<sz)
  (hs:act.eval s=v) (hown:OwnL e sz f w B v l) (h0 c m:Nat) (nw:List α) (hm:nw.length=m) (hm0:0<m) (N:Nat) (hN:l.length+m=N) (hx:act.eval x=.slice (some ⟨h0,0,none⟩) m c) (ty:TypeId) (fr:Nat × Nat) (hb0:w.heap[h0]?=some (.cells (nw.flatMap f).toArray ty fr)) (hf:∀ a,(f a).length=sz) (h1:∀ u ∈ nw.flatMap f,u.oneCell'=true)
  (hby:(l.length+m)*bytes≤140737488355328) (hb1:0<bytes) (hbase:B≤w.heap.size)
  (h:∀ g cap w',OwnL e sz f w' B (.slice (some ⟨g,0,none⟩) N cap) (l++nw)→OwnL e sz f w' B v l→w.grownBy w' v.ownBlock→(v=.slice (some ⟨g,0,none⟩) l.length cap∨(w.heap.size≤g∧w.grownBy w' none))→wpList P ops Q rest (act.put o.dst (.slice (some ⟨g,0,none⟩) N cap)) w'):wpList P ops Q (o :: rest) act w:=by
 subst hN
 obtain⟨i,hi,hzz⟩:=Option.map_eq_some_iff.1 hinfo
 simp only [Prod.mk.injEq] at hzz
 obtain⟨hz,hsize,hbb⟩:=hzz
 have hle:l.length+m≤(l.length+m)*bytes:=Nat.le_mul_of_pos_right _ hb1
 have hnl:(nw.flatMap f).length=m*sz:=by
  rw [← hm]
  clear hb0 h h1 hm
  induction nw with
  | nil=>simp
  | cons a t ih=>simp only [List.flatMap_cons,List.length_append,hf,ih,List.length_cons,Nat.add_mul];omega
 have hnews:∀ j u,(nw.flatMap f)[j]?=some u→w.cell? ((⟨h0,0,none⟩:Addr).add j)=some u:=fun j u hu=>World.news_of_block hb0 j u (by simpa using hu)
 have big:l.length+m≤maxLen:=by simp only [maxLen];omega
 have grow:∀ ao cap,v=.slice ao l.length cap→(ao=none→l.length=0∧cap=0)→(∀ b,ao=some b→∀ j u,(l.flatMap f)[j]?=some u→w.cell? (b.add j)=some u)→cap<l.length+m→wpList P ops Q (o :: rest) act w:=by
  intro ao cap hv hnone holds hfull
  refine wpList_append_grows w hgd s x t ho e i z sz bytes ht hi hz hsize hbb hzs hsz ao l.length cap (l.flatMap f) (by rw [hs,hv]) hnone hown.1 holds ⟨h0,0,none⟩ m c (nw.flatMap f) hx hnl hnews h1 hfull big hby ?_
  intro v' w' hr hg
  have hr':OwnL e sz f w' w.heap.size v' (l++nw):=by
   unfold OwnL
   rw [List.length_append,List.flatMap_append,hm]
   exact hr
  obtain⟨g,cap',hv',hg1,hg2⟩:=hr'.form (by rw [List.length_append];omega)
  rw [List.length_append,hm] at hv'
  subst hv'
  have hg':w.grownBy w' v.ownBlock:=⟨hg.os,hg.tape,hg.output,hg.size,fun k hk _=>hg.block k hk (by simp)⟩
  exact h g cap' w' (hr'.mono hbase) (hown.kept hg (fun k _ e=>by cases e)) hg' (Or.inr ⟨hg1,hg⟩)
 rcases hown.2 with⟨h2,h3⟩|⟨g,cap,cur,h2,h3,h4,h5,h6,h7,h8⟩
 ·exact grow none 0 (by rw [h2,h3]) (fun _=>⟨h3,rfl⟩) (fun b hb=>by cases hb) (by omega)
 ·by_cases hfit:l.length+m≤cap
  ·subst h2
   refine wpList_append_fits w hgd s x t ho B e i sz ht hi hsize g l.length cap (l.flatMap f) hs hown ⟨h0,0,none⟩ m c (nw.flatMap f) hx hnl hnews h1 hfit ?_
   intro w' hr hg
   have hr':OwnL e sz f w' B (.slice (some ⟨g,0,none⟩) (l.length+m) cap) (l++nw):=by
    unfold OwnL
    rw [List.length_append,List.flatMap_append,hm]
    exact hr
   refine h g cap w' hr' ?_ hg (Or.inl rfl)
   refine OwnL.prefix (nw:=nw) hf ?_
   rw [List.length_append,hm]
   exact hr'
  ·refine grow _ cap h2 (fun e=>by cases e) (fun b hb j u hu=>?_) (by omega)
   cases hb
   exact World.ownsRow.cells hown (by rw [h2];rfl) j u hu
end
end Go.Proofs.YtgigkiocdiffjaaGreat
namespace Go.Proofs.YtgigkiocdiffjaaGreat
open Go.RowKit Veil
def s3V (x:Int × Int × Int):List Value:=[.int .i64 x.1,.int .i64 x.2.1,.int .i64 x.2.2]
def mark3 (n:Nat):Int × Int × Int:=(-1000-n,-1000-n,-1000-n)
def markR (n:Nat):Rec:=⟨-1000-n,-1000-n,-1000-n⟩
def markN (n:Nat):No:=⟨-1000-n,-1000-n⟩
def oneV (v:Value):List Value:=[v]
theorem s3V_len:∀ a,(s3V a).length=3:=fun _=>rfl
theorem recV_len:∀ a,(recV a).length=3:=fun _=>rfl
theorem noV_len:∀ a,(noV a).length=2:=fun _=>rfl
theorem mark_span (n:Nat) (w:World) (hn:n≤6000000000000):Calls Tryz.prog 44 #[.int .i64 n] w fun e w'=>e=.returned (.agg #[.int .i64 (-1000-n),.int .i64 (-1000-n),.int .i64 (-1000-n)])∧Below w.heap.size w w':=by
 go_enter Tryz.func44,Tryz.ntmps44
 go_wp2
 exact bodyPost_ret (results_cell_row Tryz.results44 _ _ w.heap.size 94 #[.int .i64 (-1000-n),.int .i64 (-1000-n),.int .i64 (-1000-n)] (0,0) _ (by simp) (Go.heap_alloc_new _ _) Tryz.underlying94 rfl (by kernel_rfl)) rfl ⟨rfl,below_box _ _⟩
theorem mark_record (n:Nat) (w:World) (hn:n≤6000000000000):Calls Tryz.prog 45 #[.int .i64 n] w fun e w'=>e=.returned (.agg #[.int .i64 (-1000-n),.int .i64 (-1000-n),.int .i64 (-1000-n)])∧Below w.heap.size w w':=by
 go_enter Tryz.func45,Tryz.ntmps45
 go_wp2
 exact bodyPost_ret (results_cell_row Tryz.results45 _ _ w.heap.size 97 #[.int .i64 (-1000-n),.int .i64 (-1000-n),.int .i64 (-1000-n)] (0,0) _ (by simp) (Go.heap_alloc_new _ _) Tryz.underlying97 rfl (by kernel_rfl)) rfl ⟨rfl,below_box _ _⟩
theorem mark_notice (n:Nat) (w:World) (hn:n≤6000000000000):Calls Tryz.prog 46 #[.int .i64 n] w fun e w'=>e=.returned (.agg #[.int .i64 (-1000-n),.int .i64 (-1000-n)])∧Below w.heap.size w w':=by
 go_enter Tryz.func46,Tryz.ntmps46
 go_wp2
 exact bodyPost_ret (results_cell_row Tryz.results46 _ _ w.heap.size 100 #[.int .i64 (-1000-n),.int .i64 (-1000-n)] (0,0) _ (by simp) (Go.heap_alloc_new _ _) Tryz.underlying100 rfl (by kernel_rfl)) rfl ⟨rfl,below_box _ _⟩
end Go.Proofs.YtgigkiocdiffjaaGreat
