import Derived.Test.YtgigkiocdiffjaaGreatE07
import Derived.Laws.IdiomStrings
import Derived.Laws.Concat
import Derived.OwnWalk
set_option maxRecDepth 100000
set_option maxHeartbeats 16000000
namespace Go.Proofs.YtgigkiocdiffjaaGreat
open Go.RowKit Veil
def kindN (b:Nat):Nat:=if 97≤b∧b≤122 then 97 else if 48≤b∧b≤57 then 48 else 0
theorem rkind_any (b:Nat) (w:World):Calls Tryz.prog 162 #[.int .u8 b] w fun e w'=>e=.returned (.int .u8 (kindN b))∧w=w':=by
 by_cases h1:97≤b
 ·by_cases h2:b≤122
  ·have HK:=hide (show kindN b=97 by simp [kindN,h1,h2])
   have h1':(97:Int)≤(b:Int):=by omega
   have h2':(b:Int)≤122:=by omega
   clear h1 h2
   go_enter Tryz.func162,Tryz.ntmps162
   go_wp2
   go_ret
   exact⟨by rw [HK.out];rfl,rfl⟩
  ·have HK:=hide (show kindN b=0 by unfold kindN;rw [if_neg (by omega),if_neg (by omega)])
   have h1':(97:Int)≤(b:Int):=by omega
   have h2':(122:Int)<(b:Int):=by omega
   have h3':(48:Int)≤(b:Int):=by omega
   have h4':(57:Int)<(b:Int):=by omega
   clear h1 h2
   go_enter Tryz.func162,Tryz.ntmps162
   go_wp2
   go_ret
   exact⟨by rw [HK.out];rfl,rfl⟩
 ·have h1':(b:Int)<97:=by omega
  by_cases h3:48≤b
  ·have h3':(48:Int)≤(b:Int):=by omega
   by_cases h4:b≤57
   ·have HK:=hide (show kindN b=48 by unfold kindN;rw [if_neg (by omega),if_pos (by omega)])
    have h4':(b:Int)≤57:=by omega
    clear h1 h3 h4
    go_enter Tryz.func162,Tryz.ntmps162
    go_wp2
    go_ret
    exact⟨by rw [HK.out];rfl,rfl⟩
   ·have HK:=hide (show kindN b=0 by unfold kindN;rw [if_neg (by omega),if_neg (by omega)])
    have h4':(57:Int)<(b:Int):=by omega
    clear h1 h3 h4
    go_enter Tryz.func162,Tryz.ntmps162
    go_wp2
    go_ret
    exact⟨by rw [HK.out];rfl,rfl⟩
  ·have HK:=hide (show kindN b=0 by unfold kindN;rw [if_neg (by omega),if_neg (by omega)])
   have h3':(b:Int)<48:=by omega
   clear h1 h3
   go_enter Tryz.func162,Tryz.ntmps162
   go_wp2
   go_ret
   exact⟨by rw [HK.out];rfl,rfl⟩
def strikes (c:Cfg) (text:ByteArray) (d:Nat) (r:ByteArray × Int):Bool:=cutB (bytes r.1) (bytes text) && !c.le r.2 d
def struckB (c:Cfg) (text:ByteArray) (d:Nat):Bool:=c.rules.any (strikes c text d)
theorem rstruck_any (c:Cfg) (v:CfgV) (rv av:Value) (g:Nat) (text:ByteArray) (d:Nat) (w:World) (hl:labelsB c=true) (hok:CfgOk c) (hat:CfgAt w c v) (hbox:RBox w g c v rv av) (hrl:∀ r,r ∈ c.rules→okL c.labels r.2=true) (hd:d<c.n) (ht:text.size≤140737488355328) :
  Calls Tryz.prog 171 #[.pointer (some ⟨g,0,none⟩),.string text,.int .i64 d] w fun e w'=>e=.returned (.bool (struckB c text d))∧Below w.heap.size w w':=by
 obtain⟨_,_,_,_,hn,_,_⟩:=labels_of hl
 have HLE:=hide (fun (a:Nat) (w':World) (ha:a<c.n) (hb:Below w.heap.size w w')=>rleq_any c v a d w' hl (hat.below hb) ha hd)
 have HMT:=hide (fun (s:ByteArray) (w':World) (hs:s.size≤140737488355328)=>rmatch_any s text w' (by simp only [maxLen];omega) ht)
 have HTX:=hide hok.texts
 have HRL:=hide (fun r hr=>okL_nat' hn (hrl r hr))
 have hRl:=hok.rules
 obtain⟨rb,ro,hra,hblt,hcells⟩:∃ rb ro,(c.rules=[]∨v.ra=some ⟨rb,ro,none⟩)∧(c.rules=[]∨rb<w.heap.size)∧∀ i p,c.rules[i]?=some p→w.cell? ⟨rb,ro+i*2,none⟩=some (xR p)∧w.cell? ⟨rb,ro+i*2+1,none⟩=some (yR p):=by
  rcases hat.rules with h|⟨b,off,h,h1,h2⟩
  ·exact⟨0,0,Or.inl h,Or.inl h,fun i p hp=>by rw [show c.rules=[] from h] at hp;simp at hp⟩
  ·exact⟨b,off,Or.inr h,Or.inr h1,h2⟩
 have HC:=hide hcells
 have HA:=hide hra
 have HBL:=hide hblt
 have HBX:=hide hbox
 have hgl:=hbox.lt
 clear hl hok hat hbox hrl hra hblt hcells hn
 unfold cfgCells at *
 go_enter Tryz.func171,Tryz.ntmps171
 go_wp2
 go_loopw [7] (fun i wr=>∃ k:Nat,k≤c.rules.length∧i=.int .i64 k∧(c.rules.take k).any (strikes c text d)=false∧Below w.heap.size w wr) (fun i _=>c.rules.length-(intOf i).toNat)
 case atStart=>exact⟨0,Nat.zero_le _,rfl,rfl,Below.refl _ _⟩
 case round=>
  obtain⟨wo,rfl⟩:∃ x,x=wr:=⟨_,rfl⟩
  obtain⟨k,hk,rfl,hno,hbel⟩:=hrel
  have HNO:=hide hno
  have hgo:g<wo.heap.size:=Nat.lt_of_lt_of_le hgl hbel.size
  have HB:=hide (HBX.out.below hbel hgl)
  obtain⟨q0,q1,q2,q3⟩:=HB.out.cells
  clear hno
  by_cases hlt:k<c.rules.length
  ·have hne:c.rules≠[]:=fun e=>by rw [e] at hlt;simp at hlt
   have hra:v.ra=some ⟨rb,ro,none⟩:=HA.out.resolve_left hne
   have hbl:rb<w.heap.size:=HBL.out.resolve_left hne
   have hej:c.rules[k]?=some c.rules[k]:=List.getElem?_eq_getElem hlt
   obtain⟨c1,c2⟩:=HC.out k _ hej
   obtain⟨y,hy0,hy⟩:=HRL.out _ (List.getElem_mem hlt)
   have htx:=HTX.out _ (List.getElem_mem hlt)
   have HS:=hide (any_snoc (strikes c text d) c.rules k _ hej)
   have HM:=hide (any_mem (strikes c text d) c.rules k _ hej)
   generalize c.rules[k]=r at *
   obtain⟨r1,r2⟩:=r
   simp only at hy0 htx
   subst hy0
   have d1:wo.cell? ⟨rb,ro+k*2,none⟩=some (.string r1):=(hbel.cell (p:=⟨rb,ro+k*2,none⟩) hbl).trans c1
   have d2:wo.cell? ⟨rb,ro+k*2+1,none⟩=some (.int .i64 y):=(hbel.cell (p:=⟨rb,ro+k*2+1,none⟩) hbl).trans c2
   have hili:(k:Int)<(c.rules.length:Int):=by omega
   rw [hra] at q2
   have hbA:Below w.heap.size w (wo.alloc (.cells #[.string r1,.int .i64 y] 163)):=hbel.alloc hbel.size _
   have HMA:=hide (Go.heap_alloc_new wo (.cells #[.string r1,.int .i64 y] 163))
   have HGA:=hide (HBX.out.below hbA hgl)
   have HMT2:=hide (HMT.out r1 (wo.alloc (.cells #[.string r1,.int .i64 y] 163)).drew htx)
   have HVR:=hide hra
   clear hej c1 c2 hne hra htx
   cases hcut:cutB (bytes r1) (bytes text)
   ·have HZ:=hide (show (c.rules.take (k+1)).any (strikes c text d)=false by rw [HS.out,HNO.out];simp [strikes,hcut])
    rw [hcut] at HMT2
    clear hcut
    have qr0:(wo.alloc (.cells #[.string r1,.int .i64 y] 163)).cell? ⟨wo.heap.size,0,none⟩=some (.string r1):=by rw [cell_of_row _ _ _ _ _ _ HMA.out];rfl
    go_wp2_with fail
    refine wp_region_held_drew (S:=fun w'=>w'.cell? ⟨wo.heap.size,0,none⟩=some (.string r1)) (by kernel_rfl) ?_ (fun hHeld=>?_)
    ·(try dsimp only);go_keep
    refine tV 0 27 ?_
    (try simp only [Act.put,lA,lZ,lS])
    refine tV 1 28 ?_
    (try simp only [Act.put,lA,lZ,lS])
    refine tV 2 29 ?_
    (try simp only [Act.put,lA,lZ,lS])
    refine wpAnyH_ready (rs:=[3]) (by kernel_rfl) (by simp) ?_
    refine AllReadyH.cons rfl (fun K hK=>?_) AllReadyH.nil
    go_simp
    go_wp2_with (go_at_call 79;refine (HMT2.out).mono ?_;rintro e w2 ⟨rfl,hb2⟩;have s4:w2.cell? ⟨wo.heap.size,0,none⟩=some (.string r1):=by rw [cell_of_row _ _ _ _ _ _ (Below.row hb2 HMA.out (lt_of_row HMA.out))];rfl)
    refine hK.out _ _ ?_ (fun hHeld=>?_)
    ·(try dsimp only);go_keep
    clear hK K
    refine tV 4 31 ?_
    (try simp only [Act.put,lA,lZ,lS])
    refine takeU 5 (some 32) rfl rfl (by kernel_rfl) (by kernel_rfl) (by kernel_rfl) (fun _ _ _ h=>h) (by assumption) ?_
    (try simp only [Act.put,lA,lZ,lS])
    refine takeU 6 (some 33) rfl rfl (by kernel_rfl) (by kernel_rfl) (by kernel_rfl) (fun _ _ _ h=>h) (by assumption) ?_
    (try simp only [Act.put,lA,lZ,lS])
    refine takeU 7 (some 34) rfl rfl (by kernel_rfl) (by kernel_rfl) (by kernel_rfl) (fun _ _ _ h=>h) (by assumption) ?_
    (try simp only [Act.put,lA,lZ,lS])
    refine takeU 8 (some 35) rfl rfl (by kernel_rfl) (by kernel_rfl) (by kernel_rfl) (fun _ _ _ h=>h) (by assumption) ?_
    (try simp only [Act.put,lA,lZ,lS])
    refine takeU 9 (some 36) rfl rfl (by kernel_rfl) (by kernel_rfl) (by kernel_rfl) (fun _ _ _ h=>h) (by assumption) ?_
    (try simp only [Act.put,lA,lZ,lS])
    refine takeU 10 (some 37) rfl rfl (by kernel_rfl) (by kernel_rfl) (by kernel_rfl) (fun _ _ _ h=>h) (by assumption) ?_
    (try simp only [Act.put,lA,lZ,lS])
    refine takeU 11 (some 38) rfl rfl (by kernel_rfl) (by kernel_rfl) (by kernel_rfl) (fun _ _ _ h=>h) (by assumption) ?_
    (try simp only [Act.put,lA,lZ,lS])
    refine takeU 12 (some 39) rfl rfl (by kernel_rfl) (by kernel_rfl) (by kernel_rfl) (fun _ _ _ h=>h) (by assumption) ?_
    (try simp only [Act.put,lA,lZ,lS])
    refine takeU 13 (some 40) rfl rfl (by kernel_rfl) (by kernel_rfl) (by kernel_rfl) (fun _ _ _ h=>h) (by assumption) ?_
    (try simp only [Act.put,lA,lZ,lS])
    refine tV 14 41 ?_
    (try simp only [Act.put,lA,lZ,lS])
    refine wpAnyH_done (by kernel_rfl) ?_ _
    have hbel2:=hbA.drew.trans (hb2.mono hbA.drew.size)
    go_wp2
    go_roundw
    case rel=>exact⟨k+1,by omega,by go_num,HZ.out,hbel2⟩
    case measure=>simp [intOf];omega
   ·have HL2:=hide (fun (w':World) (hb:Below w.heap.size w w')=>HLE.out y w' hy hb)
    rw [hcut] at HMT2
    have HST:=hide (show strikes c text d (r1,(y:Int))=!c.le y d by simp [strikes,hcut])
    rw [HST.out] at HS HM
    clear hcut
    have qr0:(wo.alloc (.cells #[.string r1,.int .i64 y] 163)).cell? ⟨wo.heap.size,0,none⟩=some (.string r1):=by rw [cell_of_row _ _ _ _ _ _ HMA.out];rfl
    have qr1:(wo.alloc (.cells #[.string r1,.int .i64 y] 163)).cell? ⟨wo.heap.size,1,none⟩=some (.int .i64 y):=by rw [cell_of_row _ _ _ _ _ _ HMA.out];rfl
    obtain⟨p0,p1,p2,p3⟩:=HGA.out.cells
    go_wp2_with fail
    refine wp_region_held_drew (S:=fun w'=>w'.cell? ⟨wo.heap.size,0,none⟩=some (.string r1)∧w'.cell? ⟨wo.heap.size,1,none⟩=some (.int .i64 y)∧w'.cell? ⟨g,0,none⟩=some (.int .i64 c.labels)∧w'.cell? ⟨g,1,none⟩=some (.slice v.ea c.edges.length v.ec)∧w'.cell? ⟨g,2,none⟩=some (.slice v.ra c.rules.length v.rc)∧w'.cell? ⟨g,3,none⟩=some (.slice v.ga c.grants.length v.gc)) (by kernel_rfl) ?_ (fun hHeld=>?_)
    ·(try dsimp only);go_keep
    refine tV 0 27 ?_
    (try simp only [Act.put,lA,lZ,lS])
    refine tV 1 28 ?_
    (try simp only [Act.put,lA,lZ,lS])
    refine tV 2 29 ?_
    (try simp only [Act.put,lA,lZ,lS])
    refine wpAnyH_ready (rs:=[3]) (by kernel_rfl) (by simp) ?_
    refine AllReadyH.cons rfl (fun K hK=>?_) AllReadyH.nil
    go_simp
    go_wp2_with (go_at_call 79;refine (HMT2.out).mono ?_;rintro e w2 ⟨rfl,hb2⟩;have HG2:=hide (show RBox w2 g c v rv av from Below.row hb2 HGA.out HGA.out.lt);have HM2:=hide (Below.row hb2 HMA.out (lt_of_row HMA.out));obtain⟨sa2,sb2,sc2,sd2⟩:=HG2.out.cells;have se2:w2.cell? ⟨wo.heap.size,0,none⟩=some (.string r1):=(cell_of_row _ _ _ _ _ _ HM2.out).trans rfl;have sf2:w2.cell? ⟨wo.heap.size,1,none⟩=some (.int .i64 y):=(cell_of_row _ _ _ _ _ _ HM2.out).trans rfl;have hbel2:=hbA.drew.trans (hb2.mono hbA.drew.size))
    refine hK.out _ _ ?_ (fun hHeld=>?_)
    ·(try dsimp only);go_keep
    clear hK K
    refine tV 4 31 ?_
    (try simp only [Act.put,lA,lZ,lS])
    refine tV 5 32 ?_
    (try simp only [Act.put,lA,lZ,lS])
    refine tV 6 33 ?_
    (try simp only [Act.put,lA,lZ,lS])
    refine tV 7 34 ?_
    (try simp only [Act.put,lA,lZ,lS])
    refine tV 8 35 ?_
    (try simp only [Act.put,lA,lZ,lS])
    refine tV 9 36 ?_
    (try simp only [Act.put,lA,lZ,lS])
    refine tV 10 37 ?_
    (try simp only [Act.put,lA,lZ,lS])
    refine tV 11 38 ?_
    (try simp only [Act.put,lA,lZ,lS])
    refine wpAnyH_ready (rs:=[12]) (by kernel_rfl) (by simp) ?_
    refine AllReadyH.cons rfl (fun K hK=>?_) AllReadyH.nil
    go_simp
    go_wp2_with (go_at_call 102;refine (HL2.out _ hbel2).mono ?_;rintro e w3 ⟨rfl,hb3⟩;have HG3:=hide (show RBox w3 g c v rv av from Below.row hb3 HG2.out HG2.out.lt);have HM3:=hide (Below.row hb3 HM2.out (lt_of_row HM2.out));obtain⟨sa3,sb3,sc3,sd3⟩:=HG3.out.cells;have se3:w3.cell? ⟨wo.heap.size,0,none⟩=some (.string r1):=(cell_of_row _ _ _ _ _ _ HM3.out).trans rfl;have sf3:w3.cell? ⟨wo.heap.size,1,none⟩=some (.int .i64 y):=(cell_of_row _ _ _ _ _ _ HM3.out).trans rfl;have hbel3:=hbel2.trans (hb3.mono hbel2.size))
    refine hK.out _ _ ?_ (fun hHeld=>?_)
    ·(try dsimp only);go_keep
    clear hK K
    refine tV 13 40 ?_
    (try simp only [Act.put,lA,lZ,lS])
    refine tV 14 41 ?_
    (try simp only [Act.put,lA,lZ,lS])
    refine wpAnyH_done (by kernel_rfl) ?_ _
    cases hle:c.le y d
    ·have HT:=hide (HM.out (by rw [hle];rfl))
     clear hle HS
     go_wp2
     go_ret
     exact⟨ret_bool HT.out.symm,hbel3⟩
    ·have HZ:=hide (show (c.rules.take (k+1)).any (strikes c text d)=false by rw [HS.out,HNO.out,hle];rfl)
     clear hle HM
     go_wp2
     go_roundw
     case rel=>exact⟨k+1,by omega,by go_num,HZ.out,hbel3⟩
     case measure=>simp [intOf];omega
  ·obtain rfl:k=c.rules.length:=by omega
   have HN:=hide (show struckB c text d=false by have:=HNO.out;rwa [List.take_length] at this)
   go_wp2
   go_ret
   exact⟨ret_bool HN.out.symm,hbel⟩
end Go.Proofs.YtgigkiocdiffjaaGreat
namespace Veil
def backF (p:Nat→Bool):Nat→Nat
 | 0=>0
 | f+1=>bif p f then backF p f else f+1
def fwdF (p:Nat→Bool) (m:Nat):Nat→Nat→Nat
 | 0,t=>t
 | f+1,t=>bif decide (t<m) && p t then fwdF p m f (t+1) else t
theorem backF_yes {p:Nat→Bool} {f:Nat} (h:p f=true):backF p (f+1)=backF p f:=by simp [backF,h]
theorem backF_no {p:Nat→Bool} {f:Nat} (h:p f=false):backF p (f+1)=f+1:=by simp [backF,h]
theorem backF_le (p:Nat→Bool) (i:Nat):backF p i≤i:=by
 induction i with
 | zero=>exact Nat.le_refl _
 | succ f ih=>unfold backF;cases p f <;> simp;omega
theorem fwdF_yes {p:Nat→Bool} {m t:Nat} (ht:t<m) (h:p t=true):fwdF p m (m-t) t=fwdF p m (m-(t+1)) (t+1):=by
 obtain⟨k,hk⟩:∃ k,m-t=k+1:=⟨m-t-1,by omega⟩
 rw [hk,show m-(t+1)=k by omega,fwdF];simp [ht,h]
theorem fwdF_no {p:Nat→Bool} {m t:Nat} (h:p t=false):fwdF p m (m-t) t=t:=by
 cases hk:m-t with
 | zero=>rfl
 | succ k=>rw [fwdF];simp [h]
theorem fwdF_end {p:Nat→Bool} {m:Nat}:fwdF p m (m-m) m=m:=by rw [Nat.sub_self];rfl
def textF (f:Nat→Nat) (a b:Nat):ByteArray:=⟨((List.range' a (b-a)).map fun j=>UInt8.ofNat (f j)).toArray⟩
theorem textF_self (f:Nat→Nat) (a:Nat):textF f a a=ByteArray.empty:=by simp [textF];rfl
theorem textF_succ (f:Nat→Nat) (a b:Nat) (h:a≤b):textF f a (b+1)=textF f a b++⟨#[UInt8.ofNat (f b)]⟩:=by
 unfold textF
 rw [show b+1-a=(b-a)+1 by omega,List.range'_concat]
 apply ByteArray.ext
 have:a+(b-a)=b:=by omega
 simp [this]
theorem textF_size (f:Nat→Nat) (a b:Nat):(textF f a b).size=b-a:=by simp [textF,ByteArray.size]
def isAt (K:Nat→Nat) (H:Nat→Bool) (k j:Nat):Bool:=!H j && (K j == k)
structure Piece where
 lo:Nat
 hi:Nat
 text:ByteArray
def pieceF (K B:Nat→Nat) (H:Nat→Bool) (m i:Nat):Piece:=
 bif H i || (K i == 0) then ⟨i,i,ByteArray.empty⟩ else
  let lo:=backF (isAt K H (K i)) i
  let hi:=fwdF (isAt K H (K i)) m (m-lo) lo
  ⟨lo,hi,textF B lo hi⟩
end Veil
namespace Go.Proofs.YtgigkiocdiffjaaGreat
open Go.RowKit Veil
theorem run_conv1 (w:World) (b:Nat) (hb:b<256):(convert 164 9 (.slice (some ⟨w.heap.size,0,none⟩) 1 1)).run Tryz.prog (w.alloc (.cells #[.int .u8 b] 5))=.ok (.string ⟨#[UInt8.ofNat b]⟩) (w.alloc (.cells #[.int .u8 b] 5)):=by
 have h:=run_convert_bytes_back (P:=Tryz.prog) (w.alloc (.cells #[.int .u8 b] 5)) 164 9 5 ⟨w.heap.size,0,none⟩ 1 [UInt8.ofNat b] Tryz.underlying164 Tryz.underlying5 Tryz.underlying9 (fun j hj=>by
  obtain rfl:j=0:=by simp at hj;omega
  have hbb:(UInt8.ofNat b).toNat=b:=by simp [UInt8.toNat_ofNat'];omega
  have:=World.cell?_alloc_mark w #[.int .u8 b] 5 (0,0) 0
  simp only [List.getElem_cons_zero,hbb]
  rw [show (⟨w.heap.size,0,none⟩:Addr).add 0=⟨w.heap.size,0,none⟩ from rfl]
  exact this)
 exact h
structure Reads (w:World) (g rb rn rc ab ac hb hc m:Nat) (A B:Nat→Nat) (H:Nat→Bool):Prop where
 row:w.cell? ⟨g,4,none⟩=some (.slice (some ⟨rb,0,none⟩) rn rc)
 at_:∀ j,j<m→w.cell? ⟨ab,j,none⟩=some (.int .i64 (A j))∧A j<rn
 hid:∀ j,j<m→w.cell? ⟨hb,j,none⟩=some (.bool (H j))
 byte:∀ r,r<rn→w.cell? ⟨rb,r*3,none⟩=some (.int .u8 (B r))
 g:g<w.heap.size
 rb:rb<w.heap.size
 ab:ab<w.heap.size
 hb:hb<w.heap.size
theorem Reads.below {w w':World} {g rb rn rc ab ac hb hc m:Nat} {A B:Nat→Nat} {H:Nat→Bool} (h:Reads w g rb rn rc ab ac hb hc m A B H) (hb':Below w.heap.size w w'):Reads w' g rb rn rc ab ac hb hc m A B H:=
 ⟨(hb'.cell (p:=⟨g,4,none⟩) h.g).trans h.row,fun j hj=>⟨(hb'.cell (p:=⟨ab,j,none⟩) h.ab).trans (h.at_ j hj).1,(h.at_ j hj).2⟩,fun j hj=>(hb'.cell (p:=⟨hb,j,none⟩) h.hb).trans (h.hid j hj),fun r hr=>(hb'.cell (p:=⟨rb,r*3,none⟩) h.rb).trans (h.byte r hr),
  Nat.lt_of_lt_of_le h.g hb'.size,Nat.lt_of_lt_of_le h.rb hb'.size,Nat.lt_of_lt_of_le h.ab hb'.size,Nat.lt_of_lt_of_le h.hb hb'.size⟩
theorem rpiece_any (g rb rn rc ab ac hb hc m i:Nat) (A B:Nat→Nat) (H:Nat→Bool) (w:World) (hr:Reads w g rb rn rc ab ac hb hc m A B H) (hi:i<m) (hm:m≤140737488355328) (hB:∀ r,B r<256) :
  Calls Tryz.prog 170 #[.pointer (some ⟨g,0,none⟩),.slice (some ⟨ab,0,none⟩) m ac,.slice (some ⟨hb,0,none⟩) m hc,.int .i64 i] w
   fun e w'=>e=.returned (.tuple #[.int .i64 (pieceF (fun j=>kindN (B (A j))) (fun j=>B (A j)) H m i).lo,.int .i64 (pieceF (fun j=>kindN (B (A j))) (fun j=>B (A j)) H m i).hi,.string (pieceF (fun j=>kindN (B (A j))) (fun j=>B (A j)) H m i).text])∧Below w.heap.size w w':=by
 have HR:=hide hr
 have q4:=hr.row
 obtain⟨qa,qan⟩:=hr.at_ i hi
 have qh:=hr.hid i hi
 have qb:=hr.byte _ qan
 have hii:(i:Int)<(m:Int):=by omega
 have hai:((A i:Nat):Int)<(rn:Int):=by omega
 clear hr
 have HB6:=hide hB
 clear hB
 have HP:=hide (show ∀ P,P=pieceF (fun j=>kindN (B (A j))) (fun j=>B (A j)) H m i→P=bif H i || (kindN (B (A i)) == 0) then ⟨i,i,ByteArray.empty⟩ else ⟨backF (isAt (fun j=>kindN (B (A j))) H (kindN (B (A i)))) i,fwdF (isAt (fun j=>kindN (B (A j))) H (kindN (B (A i)))) m (m-backF (isAt (fun j=>kindN (B (A j))) H (kindN (B (A i)))) i) (backF (isAt (fun j=>kindN (B (A j))) H (kindN (B (A i)))) i),textF (fun j=>B (A j)) (backF (isAt (fun j=>kindN (B (A j))) H (kindN (B (A i)))) i) (fwdF (isAt (fun j=>kindN (B (A j))) H (kindN (B (A i)))) m (m-backF (isAt (fun j=>kindN (B (A j))) H (kindN (B (A i)))) i) (backF (isAt (fun j=>kindN (B (A j))) H (kindN (B (A i)))) i))⟩ from fun P h=>h)
 generalize pieceF (fun j=>kindN (B (A j))) (fun j=>B (A j)) H m i=P at *
 have HP2:=hide (HP.out P rfl)
 clear HP
 generalize hK:kindN (B (A i))=K at *
 have HKD:=hide (show ∀ (x k:Nat) (w':World),kindN x=k→Calls Tryz.prog 162 #[.int .u8 x] w' fun e w''=>e=.returned (.int .u8 k)∧w''=w' from fun x k w' h=>(rkind_any x w').mono fun e w'' ⟨h1,h2⟩=>⟨by rw [h1,h],h2.symm⟩)
 have HK:=hide hK
 clear hK
 have HRD:=hide (fun (t:Nat) (wr:World) (hb':Below w.heap.size w wr) (ht:t<m)=>((HR.out.below hb').at_ t ht))
 cases hH:H i
 ·have HH:=hide hH
  rw [hH] at qh
  cases hk0:((K:Int) == 0)
  ·have hk0':(K == 0)=false:=by simpa using (show ¬ K=0 by have:=hk0;simp at this;omega)
   rw [hH,hk0'] at HP2
   clear hH hk0'
   go_enter Tryz.func170,Tryz.ntmps170
   go_wp2_with fail
   go_quiet ((go_at_call 162;exact Calls.quiet_of_same (HKD.out _ _ _ HK.out)))
   go_wp2
   go_loopw [12] (fun f wr=>∃ t:Nat,t≤i∧f=.int .i64 t∧backF (isAt (fun j=>kindN (B (A j))) H K) i=backF (isAt (fun j=>kindN (B (A j))) H K) t∧Below w.heap.size w wr) (fun f _=>(intOf f).toNat)
   case atStart=>exact⟨i,Nat.le_refl _,rfl,rfl,Below.drawn (Below.refl _ _) _⟩
   case round=>
    obtain⟨wo,rfl⟩:∃ x,x=wr:=⟨_,rfl⟩
    obtain⟨t,ht,rfl,hback,hbel⟩:=hrel
    have HBK:=hide hback
    clear hback
    have hgl:=HR.out.g
    by_cases ht0:0<t
    ·obtain⟨f,hf1,hf2⟩:∃ f:Nat,(t:Int)-1=(f:Int)∧t=f+1:=⟨t-1,by omega,by omega⟩
     have hfm:f<m:=by omega
     have htp:(0:Int)<(t:Int):=by omega
     have hrd:=HR.out.below hbel
     have r4:=hrd.row
     obtain⟨ra,ran⟩:=hrd.at_ f hfm
     have rh:=hrd.hid f hfm
     have rb':=hrd.byte _ ran
     have hfi:(f:Int)<(m:Int):=by omega
     have hafi:((A f:Nat):Int)<(rn:Int):=by omega
     have HF2:=hide hf2
     clear hrd hf2
     cases hHf:H f
     ·rw [hHf] at rh
      cases hKf:((kindN (B (A f)):Int) == (K:Int))
      ·have hst:=hide (show backF (isAt (fun j=>kindN (B (A j))) H K) i=t by
        rw [HBK.out,HF2.out]
        refine backF_no ?_
        have:(kindN (B (A f)) == K)=false:=by simpa using (show ¬ kindN (B (A f))=K by have:=hKf;simp at this;omega)
        simp [isAt,hHf,this])
       go_wp2_with fail
       go_quiet ((go_at_call 162;exact Calls.quiet_of_same (HKD.out _ _ _ rfl)))
       go_wp2
       go_loopw [13,14] (fun s o wr=>∃ u:Nat,t≤u∧u≤m∧o=.int .i64 u∧s=.string (textF (fun j=>B (A j)) t u)∧fwdF (isAt (fun j=>kindN (B (A j))) H K) m (m-t) t=fwdF (isAt (fun j=>kindN (B (A j))) H K) m (m-u) u∧Below w.heap.size w wr) (fun _ o _=>m-(intOf o).toNat)
       case atStart=>exact⟨t,Nat.le_refl _,by omega,rfl,by rw [textF_self];rfl,rfl,Below.drawn hbel _⟩
       case round=>
        have hbel1:=hide hbel
        clear hbel
        obtain⟨wi,rfl⟩:∃ x,x=wr:=⟨_,rfl⟩
        obtain⟨u,htu,hum,rfl,rfl,hfw,hbel2⟩:=hrel
        have HFW:=hide hfw
        clear hfw
        by_cases hul:u<m
        ·have hrd:=HR.out.below hbel2
         have x4:=hrd.row
         obtain⟨xa,xan⟩:=hrd.at_ u hul
         have xh:=hrd.hid u hul
         have xb:=hrd.byte _ xan
         have hui:(u:Int)<(m:Int):=by omega
         have haui:((A u:Nat):Int)<(rn:Int):=by omega
         clear hrd
         cases hHu:H u
         ·rw [hHu] at xh
          cases hKu:((kindN (B (A u)):Int) == (K:Int))
          ·have hno:=hide (show isAt (fun j=>kindN (B (A j))) H K u=false by
            have:(kindN (B (A u)) == K)=false:=by simpa using (show ¬ kindN (B (A u))=K by have:=hKu;simp at this;omega)
            simp [isAt,hHu,this])
           have HF:=hide (show fwdF (isAt (fun j=>kindN (B (A j))) H K) m (m-t) t=u by rw [HFW.out];exact fwdF_no hno.out)
           have HPP:=hide (show P=⟨t,u,textF (fun j=>B (A j)) t u⟩ by rw [HP2.out,hst.out,HF.out];rfl)
           go_wp2_with fail
           go_quiet ((go_at_call 162;exact Calls.quiet_of_same (HKD.out _ _ _ rfl)))
           go_wp2
           go_ret3
           exact⟨by rw [HPP.out];rfl,Below.drawn hbel2 _⟩
          ·have hys:=hide (show isAt (fun j=>kindN (B (A j))) H K u=true by
            have:(kindN (B (A u)) == K)=true:=by simpa using (show kindN (B (A u))=K by have:=hKu;simp at this;omega)
            simp [isAt,hHu,this])
           have HF:=hide (show fwdF (isAt (fun j=>kindN (B (A j))) H K) m (m-t) t=fwdF (isAt (fun j=>kindN (B (A j))) H K) m (m-(u+1)) (u+1) by rw [HFW.out];exact fwdF_yes hul hys.out)
           have HTS:=hide (textF_succ (fun j=>B (A j)) t u htu)
           have hcv:∀ n,(convert 164 9 (.slice (some ⟨wi.heap.size,0,none⟩) 1 1)).run Tryz.prog ((wi.drewN n).alloc (.cells #[.int .u8 (B (A u))] 5))=.ok (.string ⟨#[UInt8.ofNat (B (A u))]⟩) ((wi.drewN n).alloc (.cells #[.int .u8 (B (A u))] 5)):=fun n=>run_conv1 (wi.drewN n) (B (A u)) (HB6.out (A u))
           have hadd:∀ w',(Op.stringOp .add (textF (fun j=>B (A j)) t u) ⟨#[UInt8.ofNat (B (A u))]⟩).run Tryz.prog w'=.ok (.string (textF (fun j=>B (A j)) t (u+1))) w':=fun w'=>by
            rw [HTS.out]
            refine run_string_add_sum _ _ _ ?_
            rw [textF_size]
            have:(⟨#[UInt8.ofNat (B (A u))]⟩:ByteArray).size=1:=rfl
            omega
           go_wp2_with fail
           go_quiet ((go_at_call 162;exact Calls.quiet_of_same (HKD.out _ _ _ rfl)))
           go_wp2_with fail
           go_region_held (fun w'=>w'.cell? ⟨g,4,none⟩=some (.slice (some ⟨rb,0,none⟩) rn rc)∧w'.cell? ⟨ab,u,none⟩=some (.int .i64 (A u))∧w'.cell? ⟨rb,A u*3,none⟩=some (.int .u8 (B (A u)))) (go_keep) (fail)
           have hbel3:∀ n,Below w.heap.size w ((wi.drewN n).alloc (.cells #[.int .u8 (B (A u))] 5)):=fun n=>(Below.drawn hbel2 n).alloc (Below.drawn hbel2 n).size _
           go_wp2
           go_roundw
           case rel=>exact⟨u+1,by omega,by omega,by go_num,rfl,HF.out,hbel3 _⟩
           case measure=>simp [intOf];omega
         ·rw [hHu] at xh
          have hno:=hide (show isAt (fun j=>kindN (B (A j))) H K u=false by simp [isAt,hHu])
          have HF:=hide (show fwdF (isAt (fun j=>kindN (B (A j))) H K) m (m-t) t=u by rw [HFW.out];exact fwdF_no hno.out)
          have HPP:=hide (show P=⟨t,u,textF (fun j=>B (A j)) t u⟩ by rw [HP2.out,hst.out,HF.out];rfl)
          go_wp2_with fail
          go_quiet (fail)
          go_wp2
          go_ret3
          exact⟨by rw [HPP.out];rfl,Below.drawn hbel2 _⟩
        ·obtain hue:u=m:=by omega
         have hui:decide ((u:Int)<(m:Int))=false:=by simp;omega
         have HF:=hide (show fwdF (isAt (fun j=>kindN (B (A j))) H K) m (m-t) t=u by rw [HFW.out];exact (by rw [hue];exact fwdF_end))
         have HPP:=hide (show P=⟨t,u,textF (fun j=>B (A j)) t u⟩ by rw [HP2.out,hst.out,HF.out];rfl)
         go_wp2_with fail
         go_quiet (fail)
         go_wp2
         go_ret3
         exact⟨by rw [HPP.out];rfl,Below.drawn hbel2 _⟩
      ·have hst:=hide (show backF (isAt (fun j=>kindN (B (A j))) H K) i=backF (isAt (fun j=>kindN (B (A j))) H K) f by
        rw [HBK.out,HF2.out]
        refine backF_yes ?_
        have:(kindN (B (A f)) == K)=true:=by simpa using (show kindN (B (A f))=K by have:=hKf;simp at this;omega)
        simp [isAt,hHf,this])
       go_wp2_with fail
       go_quiet ((go_at_call 162;exact Calls.quiet_of_same (HKD.out _ _ _ rfl)))
       go_wp2
       go_roundw
       case rel=>exact⟨f,by omega,by go_num,hst.out,Below.drawn hbel _⟩
       case measure=>simp [intOf];omega
     ·rw [hHf] at rh
      have hst:=hide (show backF (isAt (fun j=>kindN (B (A j))) H K) i=t by
        rw [HBK.out,HF2.out]
        refine backF_no ?_
        simp [isAt,hHf])
      go_wp2_with fail
      go_quiet (fail)
      go_wp2
      go_loopw [13,14] (fun s o wr=>∃ u:Nat,t≤u∧u≤m∧o=.int .i64 u∧s=.string (textF (fun j=>B (A j)) t u)∧fwdF (isAt (fun j=>kindN (B (A j))) H K) m (m-t) t=fwdF (isAt (fun j=>kindN (B (A j))) H K) m (m-u) u∧Below w.heap.size w wr) (fun _ o _=>m-(intOf o).toNat)
      case atStart=>exact⟨t,Nat.le_refl _,by omega,rfl,by rw [textF_self];rfl,rfl,Below.drawn hbel _⟩
      case round=>
       have hbel1:=hide hbel
       clear hbel
       obtain⟨wi,rfl⟩:∃ x,x=wr:=⟨_,rfl⟩
       obtain⟨u,htu,hum,rfl,rfl,hfw,hbel2⟩:=hrel
       have HFW:=hide hfw
       clear hfw
       by_cases hul:u<m
       ·have hrd:=HR.out.below hbel2
        have x4:=hrd.row
        obtain⟨xa,xan⟩:=hrd.at_ u hul
        have xh:=hrd.hid u hul
        have xb:=hrd.byte _ xan
        have hui:(u:Int)<(m:Int):=by omega
        have haui:((A u:Nat):Int)<(rn:Int):=by omega
        clear hrd
        cases hHu:H u
        ·rw [hHu] at xh
         cases hKu:((kindN (B (A u)):Int) == (K:Int))
         ·have hno:=hide (show isAt (fun j=>kindN (B (A j))) H K u=false by
           have:(kindN (B (A u)) == K)=false:=by simpa using (show ¬ kindN (B (A u))=K by have:=hKu;simp at this;omega)
           simp [isAt,hHu,this])
          have HF:=hide (show fwdF (isAt (fun j=>kindN (B (A j))) H K) m (m-t) t=u by rw [HFW.out];exact fwdF_no hno.out)
          have HPP:=hide (show P=⟨t,u,textF (fun j=>B (A j)) t u⟩ by rw [HP2.out,hst.out,HF.out];rfl)
          go_wp2_with fail
          go_quiet ((go_at_call 162;exact Calls.quiet_of_same (HKD.out _ _ _ rfl)))
          go_wp2
          go_ret3
          exact⟨by rw [HPP.out];rfl,Below.drawn hbel2 _⟩
         ·have hys:=hide (show isAt (fun j=>kindN (B (A j))) H K u=true by
           have:(kindN (B (A u)) == K)=true:=by simpa using (show kindN (B (A u))=K by have:=hKu;simp at this;omega)
           simp [isAt,hHu,this])
          have HF:=hide (show fwdF (isAt (fun j=>kindN (B (A j))) H K) m (m-t) t=fwdF (isAt (fun j=>kindN (B (A j))) H K) m (m-(u+1)) (u+1) by rw [HFW.out];exact fwdF_yes hul hys.out)
          have HTS:=hide (textF_succ (fun j=>B (A j)) t u htu)
          have hcv:∀ n,(convert 164 9 (.slice (some ⟨wi.heap.size,0,none⟩) 1 1)).run Tryz.prog ((wi.drewN n).alloc (.cells #[.int .u8 (B (A u))] 5))=.ok (.string ⟨#[UInt8.ofNat (B (A u))]⟩) ((wi.drewN n).alloc (.cells #[.int .u8 (B (A u))] 5)):=fun n=>run_conv1 (wi.drewN n) (B (A u)) (HB6.out (A u))
          have hadd:∀ w',(Op.stringOp .add (textF (fun j=>B (A j)) t u) ⟨#[UInt8.ofNat (B (A u))]⟩).run Tryz.prog w'=.ok (.string (textF (fun j=>B (A j)) t (u+1))) w':=fun w'=>by
           rw [HTS.out]
           refine run_string_add_sum _ _ _ ?_
           rw [textF_size]
           have:(⟨#[UInt8.ofNat (B (A u))]⟩:ByteArray).size=1:=rfl
           omega
          go_wp2_with fail
          go_quiet ((go_at_call 162;exact Calls.quiet_of_same (HKD.out _ _ _ rfl)))
          go_wp2_with fail
          go_region_held (fun w'=>w'.cell? ⟨g,4,none⟩=some (.slice (some ⟨rb,0,none⟩) rn rc)∧w'.cell? ⟨ab,u,none⟩=some (.int .i64 (A u))∧w'.cell? ⟨rb,A u*3,none⟩=some (.int .u8 (B (A u)))) (go_keep) (fail)
          have hbel3:∀ n,Below w.heap.size w ((wi.drewN n).alloc (.cells #[.int .u8 (B (A u))] 5)):=fun n=>(Below.drawn hbel2 n).alloc (Below.drawn hbel2 n).size _
          go_wp2
          go_roundw
          case rel=>exact⟨u+1,by omega,by omega,by go_num,rfl,HF.out,hbel3 _⟩
          case measure=>simp [intOf];omega
        ·rw [hHu] at xh
         have hno:=hide (show isAt (fun j=>kindN (B (A j))) H K u=false by simp [isAt,hHu])
         have HF:=hide (show fwdF (isAt (fun j=>kindN (B (A j))) H K) m (m-t) t=u by rw [HFW.out];exact fwdF_no hno.out)
         have HPP:=hide (show P=⟨t,u,textF (fun j=>B (A j)) t u⟩ by rw [HP2.out,hst.out,HF.out];rfl)
         go_wp2_with fail
         go_quiet (fail)
         go_wp2
         go_ret3
         exact⟨by rw [HPP.out];rfl,Below.drawn hbel2 _⟩
       ·obtain hue:u=m:=by omega
        have hui:decide ((u:Int)<(m:Int))=false:=by simp;omega
        have HF:=hide (show fwdF (isAt (fun j=>kindN (B (A j))) H K) m (m-t) t=u by rw [HFW.out];exact (by rw [hue];exact fwdF_end))
        have HPP:=hide (show P=⟨t,u,textF (fun j=>B (A j)) t u⟩ by rw [HP2.out,hst.out,HF.out];rfl)
        go_wp2_with fail
        go_quiet (fail)
        go_wp2
        go_ret3
        exact⟨by rw [HPP.out];rfl,Below.drawn hbel2 _⟩
    ·have htp:decide ((0:Int)<(t:Int))=false:=by simp;omega
     have hst:=hide (show backF (isAt (fun j=>kindN (B (A j))) H K) i=t by
        rw [HBK.out,show t=0 by omega];rfl)
     go_wp2_with fail
     go_quiet (fail)
     go_wp2
     go_loopw [13,14] (fun s o wr=>∃ u:Nat,t≤u∧u≤m∧o=.int .i64 u∧s=.string (textF (fun j=>B (A j)) t u)∧fwdF (isAt (fun j=>kindN (B (A j))) H K) m (m-t) t=fwdF (isAt (fun j=>kindN (B (A j))) H K) m (m-u) u∧Below w.heap.size w wr) (fun _ o _=>m-(intOf o).toNat)
     case atStart=>exact⟨t,Nat.le_refl _,by omega,rfl,by rw [textF_self];rfl,rfl,Below.drawn hbel _⟩
     case round=>
      have hbel1:=hide hbel
      clear hbel
      obtain⟨wi,rfl⟩:∃ x,x=wr:=⟨_,rfl⟩
      obtain⟨u,htu,hum,rfl,rfl,hfw,hbel2⟩:=hrel
      have HFW:=hide hfw
      clear hfw
      by_cases hul:u<m
      ·have hrd:=HR.out.below hbel2
       have x4:=hrd.row
       obtain⟨xa,xan⟩:=hrd.at_ u hul
       have xh:=hrd.hid u hul
       have xb:=hrd.byte _ xan
       have hui:(u:Int)<(m:Int):=by omega
       have haui:((A u:Nat):Int)<(rn:Int):=by omega
       clear hrd
       cases hHu:H u
       ·rw [hHu] at xh
        cases hKu:((kindN (B (A u)):Int) == (K:Int))
        ·have hno:=hide (show isAt (fun j=>kindN (B (A j))) H K u=false by
          have:(kindN (B (A u)) == K)=false:=by simpa using (show ¬ kindN (B (A u))=K by have:=hKu;simp at this;omega)
          simp [isAt,hHu,this])
         have HF:=hide (show fwdF (isAt (fun j=>kindN (B (A j))) H K) m (m-t) t=u by rw [HFW.out];exact fwdF_no hno.out)
         have HPP:=hide (show P=⟨t,u,textF (fun j=>B (A j)) t u⟩ by rw [HP2.out,hst.out,HF.out];rfl)
         go_wp2_with fail
         go_quiet ((go_at_call 162;exact Calls.quiet_of_same (HKD.out _ _ _ rfl)))
         go_wp2
         go_ret3
         exact⟨by rw [HPP.out];rfl,Below.drawn hbel2 _⟩
        ·have hys:=hide (show isAt (fun j=>kindN (B (A j))) H K u=true by
          have:(kindN (B (A u)) == K)=true:=by simpa using (show kindN (B (A u))=K by have:=hKu;simp at this;omega)
          simp [isAt,hHu,this])
         have HF:=hide (show fwdF (isAt (fun j=>kindN (B (A j))) H K) m (m-t) t=fwdF (isAt (fun j=>kindN (B (A j))) H K) m (m-(u+1)) (u+1) by rw [HFW.out];exact fwdF_yes hul hys.out)
         have HTS:=hide (textF_succ (fun j=>B (A j)) t u htu)
         have hcv:∀ n,(convert 164 9 (.slice (some ⟨wi.heap.size,0,none⟩) 1 1)).run Tryz.prog ((wi.drewN n).alloc (.cells #[.int .u8 (B (A u))] 5))=.ok (.string ⟨#[UInt8.ofNat (B (A u))]⟩) ((wi.drewN n).alloc (.cells #[.int .u8 (B (A u))] 5)):=fun n=>run_conv1 (wi.drewN n) (B (A u)) (HB6.out (A u))
         have hadd:∀ w',(Op.stringOp .add (textF (fun j=>B (A j)) t u) ⟨#[UInt8.ofNat (B (A u))]⟩).run Tryz.prog w'=.ok (.string (textF (fun j=>B (A j)) t (u+1))) w':=fun w'=>by
          rw [HTS.out]
          refine run_string_add_sum _ _ _ ?_
          rw [textF_size]
          have:(⟨#[UInt8.ofNat (B (A u))]⟩:ByteArray).size=1:=rfl
          omega
         go_wp2_with fail
         go_quiet ((go_at_call 162;exact Calls.quiet_of_same (HKD.out _ _ _ rfl)))
         go_wp2_with fail
         go_region_held (fun w'=>w'.cell? ⟨g,4,none⟩=some (.slice (some ⟨rb,0,none⟩) rn rc)∧w'.cell? ⟨ab,u,none⟩=some (.int .i64 (A u))∧w'.cell? ⟨rb,A u*3,none⟩=some (.int .u8 (B (A u)))) (go_keep) (fail)
         have hbel3:∀ n,Below w.heap.size w ((wi.drewN n).alloc (.cells #[.int .u8 (B (A u))] 5)):=fun n=>(Below.drawn hbel2 n).alloc (Below.drawn hbel2 n).size _
         go_wp2
         go_roundw
         case rel=>exact⟨u+1,by omega,by omega,by go_num,rfl,HF.out,hbel3 _⟩
         case measure=>simp [intOf];omega
       ·rw [hHu] at xh
        have hno:=hide (show isAt (fun j=>kindN (B (A j))) H K u=false by simp [isAt,hHu])
        have HF:=hide (show fwdF (isAt (fun j=>kindN (B (A j))) H K) m (m-t) t=u by rw [HFW.out];exact fwdF_no hno.out)
        have HPP:=hide (show P=⟨t,u,textF (fun j=>B (A j)) t u⟩ by rw [HP2.out,hst.out,HF.out];rfl)
        go_wp2_with fail
        go_quiet (fail)
        go_wp2
        go_ret3
        exact⟨by rw [HPP.out];rfl,Below.drawn hbel2 _⟩
      ·obtain hue:u=m:=by omega
       have hui:decide ((u:Int)<(m:Int))=false:=by simp;omega
       have HF:=hide (show fwdF (isAt (fun j=>kindN (B (A j))) H K) m (m-t) t=u by rw [HFW.out];exact (by rw [hue];exact fwdF_end))
       have HPP:=hide (show P=⟨t,u,textF (fun j=>B (A j)) t u⟩ by rw [HP2.out,hst.out,HF.out];rfl)
       go_wp2_with fail
       go_quiet (fail)
       go_wp2
       go_ret3
       exact⟨by rw [HPP.out];rfl,Below.drawn hbel2 _⟩
  ·have hk0':(K == 0)=true:=by simpa using (show K=0 by have:=hk0;simp at this;omega)
   rw [hH,hk0'] at HP2
   have HPP:=hide (show P=⟨i,i,ByteArray.empty⟩ from HP2.out)
   clear hH hk0'
   go_enter Tryz.func170,Tryz.ntmps170
   go_wp2_with fail
   go_quiet ((go_at_call 162;exact Calls.quiet_of_same (HKD.out _ _ _ HK.out)))
   go_wp2
   go_ret3
   exact⟨by rw [HPP.out];rfl,Below.drawn (Below.refl _ _) _⟩
 ·rw [hH] at qh HP2
  have HPP:=hide (show P=⟨i,i,ByteArray.empty⟩ from HP2.out)
  clear hH
  go_enter Tryz.func170,Tryz.ntmps170
  go_wp2_with fail
  go_quiet ((go_at_call 162;exact Calls.quiet_of_same (HKD.out _ _ _ HK.out)))
  go_wp2
  go_ret3
  exact⟨by rw [HPP.out];rfl,Below.drawn (Below.refl _ _) _⟩
end Go.Proofs.YtgigkiocdiffjaaGreat
namespace Veil
def cellAt (row:List RC) (r:Nat):RC:=row.getD r ⟨0,0,[]⟩
def hidR (c:Cfg) (row:List RC) (d r:Nat):Bool:=!c.le (seenF c (cellAt row r) d).1 d
def atTo (c:Cfg) (row:List RC) (d k:Nat):List Nat:=(List.range k).filter fun r=>thereB c (cellAt row r) d
def hidTo (c:Cfg) (row:List RC) (d k:Nat):List Bool:=(atTo c row d k).map (hidR c row d)
theorem atTo_yes {c:Cfg} {row:List RC} {d k:Nat} (h:thereB c (cellAt row k) d=true):atTo c row d (k+1)=atTo c row d k++[k]:=by
 unfold atTo;rw [List.range_succ,List.filter_append];simp [h]
theorem atTo_no {c:Cfg} {row:List RC} {d k:Nat} (h:thereB c (cellAt row k) d=false):atTo c row d (k+1)=atTo c row d k:=by
 unfold atTo;rw [List.range_succ,List.filter_append];simp [h]
theorem hidTo_yes {c:Cfg} {row:List RC} {d k:Nat} (h:thereB c (cellAt row k) d=true):hidTo c row d (k+1)=hidTo c row d k++[hidR c row d k]:=by
 unfold hidTo;rw [atTo_yes h];simp
theorem hidTo_no {c:Cfg} {row:List RC} {d k:Nat} (h:thereB c (cellAt row k) d=false):hidTo c row d (k+1)=hidTo c row d k:=by
 unfold hidTo;rw [atTo_no h]
theorem hidTo_length (c:Cfg) (row:List RC) (d k:Nat):(hidTo c row d k).length=(atTo c row d k).length:=by simp [hidTo]
theorem atTo_length (c:Cfg) (row:List RC) (d k:Nat):(atTo c row d k).length≤k:=by
 unfold atTo
 have:=List.length_filter_le (fun r=>thereB c (cellAt row r) d) (List.range k)
 simpa using this
theorem atTo_lt {c:Cfg} {row:List RC} {d k r:Nat} (h:r ∈ atTo c row d k):r<k:=by
 unfold atTo at h;rw [List.mem_filter] at h;simpa using h.1
structure Pl where
 b:Nat
 first:Nat
 last:Nat
def setR (L:List Bool) (F:Nat→Bool) (lo:Nat):Nat→List Bool
 | 0=>L
 | n+1=>(setR L F lo n).set (lo+n) (F (lo+n))
theorem setR_length (L:List Bool) (F:Nat→Bool) (lo n:Nat):(setR L F lo n).length=L.length:=by
 induction n with
 | zero=>rfl
 | succ n ih=>simp [setR,ih]
def moreTo (pc:Nat→Piece) (st:Nat→Bool) (fr:Nat→Bool) (m:Nat):Nat→List Bool
 | 0=>List.replicate m false
 | k+1=>bif st k then setR (moreTo pc st fr m k) (fun j=>!fr j) (pc k).lo ((pc k).hi-(pc k).lo) else moreTo pc st fr m k
theorem moreTo_length (pc:Nat→Piece) (st:Nat→Bool) (fr:Nat→Bool) (m k:Nat):(moreTo pc st fr m k).length=m:=by
 induction k with
 | zero=>simp [moreTo]
 | succ k ih=>unfold moreTo;cases st k <;> simp [setR_length,ih]
def lastTo (l:List Pl) (x:Nat):List Pl:=l.modify (l.length-1) fun p=>⟨p.b,p.first,x⟩
def plTo (A B:Nat→Nat) (h:Nat→Bool):Nat→List Pl
 | 0=>[]
 | k+1=>bif h k then (bif decide (0<k) && h (k-1) then lastTo (plTo A B h k) (A k) else plTo A B h k++[⟨35,A k,A k⟩]) else plTo A B h k++[⟨B k,A k,A k⟩]
theorem plTo_length (A B:Nat→Nat) (h:Nat→Bool) (k:Nat):(plTo A B h k).length≤k∧(0<k→0<(plTo A B h k).length):=by
 induction k with
 | zero=>exact⟨Nat.le_refl _,fun h=>absurd h (Nat.lt_irrefl _)⟩
 | succ k ih=>
  unfold plTo
  cases hk:h k
  ·simp;omega
  ·cases hk':(decide (0<k) && h (k-1))
   ·simp;omega
   ·have:0<k:=by simp at hk';exact hk'.1
    simp [lastTo];omega
theorem backF_fwd_le (p:Nat→Bool) (m:Nat):∀ (f t:Nat),t≤m→fwdF p m f t≤m∧t≤fwdF p m f t
 | 0,t,h=>⟨h,Nat.le_refl _⟩
 | f+1,t,h=>by
  unfold fwdF
  cases hc:(decide (t<m) && p t)
  ·exact⟨h,Nat.le_refl _⟩
  ·have:t<m:=by simp at hc;exact hc.1
   have:=backF_fwd_le p m f (t+1) (by omega)
   exact⟨this.1,by simp only [cond_true];omega⟩
theorem pieceF_le (K B:Nat→Nat) (H:Nat→Bool) (m i:Nat) (hi:i<m):(pieceF K B H m i).lo≤(pieceF K B H m i).hi∧(pieceF K B H m i).hi≤m∧(pieceF K B H m i).text.size≤m:=by
 unfold pieceF
 cases hc:(H i || (K i == 0))
 ·have h1:=backF_le (isAt K H (K i)) i
  have h2:=backF_fwd_le (isAt K H (K i)) m (m-backF (isAt K H (K i)) i) (backF (isAt K H (K i)) i) (by omega)
  refine⟨h2.2,h2.1,?_⟩
  simp only [cond_false,textF_size]
  omega
 ·refine⟨Nat.le_refl _,Nat.le_of_lt hi,?_⟩
  show (0:Nat)≤m
  omega
end Veil
namespace Veil
theorem cellAt_map {α:Type} (f:α→RC) {l:List α} {k:Nat} {p:α} (h:l[k]?=some p):cellAt (l.map f) k=f p:=by
 simp [cellAt,List.getD,h]
theorem seenS_lt {c:Cfg} (hl:¬ c.noLat) {o d:Nat} (ho:o<c.n) {s:Nat × Bool} (hs:s.1<c.n) {m:Mk} (hm:MkOk c m):(seenS c o d s m).1<c.n:=by
 unfold seenS
 cases c.le m.level d
 ·exact hs
 ·cases m.kind == 3
  ·cases m.kind == 4
   ·exact hs
   ·exact ho
  ·obtain⟨j,hj,e⟩:=join_nat hl hs hm.label
   simp only [cond_true,e]
   simpa using hj
theorem foldl_lt {c:Cfg} (hl:¬ c.noLat) {o d:Nat} (ho:o<c.n) (l:List Mk) (hm:∀ m,m ∈ l→MkOk c m):∀ s:Nat × Bool,s.1<c.n→(l.foldl (seenS c o d) s).1<c.n:=by
 induction l with
 | nil=>intro s hs;exact hs
 | cons a l ih=>intro s hs;exact ih (fun m h=>hm m (List.mem_cons_of_mem _ h)) _ (seenS_lt hl ho hs (hm a (List.mem_cons_self ..)))
theorem seenF_lt {c:Cfg} (hl:¬ c.noLat) {x:RC} (hx:RCOk c x) (d:Nat):(seenF c x d).1<c.n:=foldl_lt hl hx.origin _ hx.marks _ hx.origin
end Veil
namespace Veil
theorem lastTo_set {l:List Pl} {n:Nat} {p:Pl} (hn:l.length=n+1) (hp:l[n]?=some p) (x:Nat):lastTo l x=l.set n ⟨p.b,p.first,x⟩:=by
 have hlt:n<l.length:=by omega
 have he:l[n]=p:=by rw [List.getElem?_eq_getElem hlt] at hp;exact Option.some.inj hp
 unfold lastTo
 rw [hn,Nat.add_sub_cancel]
 apply List.ext_getElem?
 intro i
 rw [List.getElem?_modify,List.getElem?_set]
 by_cases h:n=i
 ·subst h;simp [hlt,he]
 ·simp [h]
end Veil
