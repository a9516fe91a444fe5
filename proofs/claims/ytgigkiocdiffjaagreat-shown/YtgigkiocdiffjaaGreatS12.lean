import Derived.Test.YtgigkiocdiffjaaGreatS11
import Derived.Laws.IdiomStrings
import Derived.Laws.BytesArg
set_option maxRecDepth 100000
set_option maxHeartbeats 16000000
namespace Go.Proofs.YtgigkiocdiffjaaGreat
open Go.RowKit Veil
def kindP (b:Nat):Nat:=bif kindN b == 97 then 1 else bif kindN b == 48 then 2 else bif b == 35 then 3 else bif b == 32 then 0 else 4
def longB (k:Nat):Bool:=k == 1 || k == 2
def endF (s:ByteArray) (i k:Nat):Nat:=bif longB k then fwdF (fun j=>kindP (bt s j) == k) s.size (s.size-(i+1)) (i+1) else i+1
theorem kindN_cases (b:Nat):kindN b=97∨kindN b=48∨kindN b=0:=by
 unfold kindN
 split
 ·exact Or.inl rfl
 ·split
  ·exact Or.inr (Or.inl rfl)
  ·exact Or.inr (Or.inr rfl)
theorem kindP_97 {b:Nat} (h:kindN b=97):kindP b=1:=by simp [kindP,h]
theorem kindP_48 {b:Nat} (h:kindN b=48):kindP b=2:=by simp [kindP,h]
theorem kindP_0 {b:Nat} (h:kindN b=0):kindP b=(bif b == 35 then 3 else bif b == 32 then 0 else 4):=by simp [kindP,h]
theorem kindP_not {b:Nat} (h:kindN b=0):longB (kindP b)=false:=by
 rw [kindP_0 h]
 cases b == 35 <;> cases b == 32 <;> rfl
theorem kindP_eq_long {a b:Nat} (h:kindN b≠0):(kindP a == kindP b)=(kindN a == kindN b):=by
 rcases kindN_cases b with hb|hb|hb
 ·rw [kindP_97 hb,hb]
  rcases kindN_cases a with ha|ha|ha
  ·rw [kindP_97 ha,ha];rfl
  ·rw [kindP_48 ha,ha];rfl
  ·rw [kindP_0 ha,ha];cases a == 35 <;> cases a == 32 <;> rfl
 ·rw [kindP_48 hb,hb]
  rcases kindN_cases a with ha|ha|ha
  ·rw [kindP_97 ha,ha];rfl
  ·rw [kindP_48 ha,ha];rfl
  ·rw [kindP_0 ha,ha];cases a == 35 <;> cases a == 32 <;> rfl
 ·exact absurd hb h
def startsB (s:ByteArray) (i:Nat):Bool:=!(decide (0<i) && (kindN (bt s (i-1)) == kindN (bt s i)) && !(kindN (bt s i) == 0))
theorem spanF_at {s:ByteArray} {i:Nat} (hi:i<s.size) (h:startsB s i=true):spanF s i=bif kindP (bt s i) == 0 then ⟨0,0,0⟩ else ⟨kindP (bt s i),i,endF s i (kindP (bt s i))⟩:=by
 unfold spanF
 by_cases hk:kindN (bt s i)=0
 ·have hp:=kindP_0 hk
  have hl:=kindP_not hk
  have he:endF s i (kindP (bt s i))=i+1:=by unfold endF;rw [hl];rfl
  rw [he]
  have hk0:(kindN (bt s i) == 0)=true:=by simpa using hk
  rw [hk0]
  cases h32:bt s i == 32
  ·cases h35:bt s i == 35
   ·rw [h32,h35] at hp;rw [hp];rfl
   ·rw [h35] at hp;rw [hp];rfl
  ·have h35:(bt s i == 35)=false:=by have:=h32;simp at this;simp;omega
   rw [h32,h35] at hp;rw [hp];rfl
 ·have hk0:(kindN (bt s i) == 0)=false:=by simpa using hk
  have h32:(bt s i == 32)=false:=by
   have:bt s i≠32:=fun e=>hk (by rw [e];decide)
   simpa using this
  have h35:(bt s i == 35)=false:=by
   have:bt s i≠35:=fun e=>hk (by rw [e];decide)
   simpa using this
  have hst:(decide (0<i) && (kindN (bt s (i-1)) == kindN (bt s i)))=false:=by
   unfold startsB at h
   rw [hk0] at h
   simp only [Bool.not_false,Bool.and_true,Bool.not_eq_true'] at h
   exact h
  have hf:fwdF (fun j=>kindN (bt s j) == kindN (bt s i)) s.size (s.size-i) i=fwdF (fun j=>kindP (bt s j) == kindP (bt s i)) s.size (s.size-(i+1)) (i+1):=by
   rw [fwdF_yes hi (by simp)]
   exact fwdF_congr (fun j _=>(kindP_eq_long hk).symm) _ _
  rw [h32,h35,hk0,hst,hf]
  unfold endF
  rcases kindN_cases (bt s i) with hb|hb|hb
  ·rw [kindP_97 hb,hb];rfl
  ·rw [kindP_48 hb,hb];rfl
  ·exact absurd hb hk
theorem endF_gt {s:ByteArray} {i k:Nat} (hi:i<s.size):i<endF s i k∧endF s i k≤s.size:=by
 unfold endF
 cases longB k
 ·simp only [cond_false];omega
 ·have:=backF_fwd_le (fun j=>kindP (bt s j) == k) s.size (s.size-(i+1)) (i+1) (by omega)
  simp only [cond_true];omega
theorem fwdF_stop (p:Nat→Bool) (m:Nat):∀ f t,t≤m→m-t≤f→fwdF p m f t<m→p (fwdF p m f t)=false:=by
 intro f
 induction f with
 | zero=>intro t h1 h2 h3;simp [fwdF] at h3;omega
 | succ f ih=>
  intro t h1 h2 h3
  rw [fwdF] at h3 ⊢
  cases hc:(decide (t<m) && p t)
  ·rw [hc] at h3
   simp only [cond_false] at h3 ⊢
   simpa [h3] using hc
  ·rw [hc] at h3
   simp only [cond_true] at h3 ⊢
   have:t<m:=by simp at hc;exact hc.1
   exact ih (t+1) (by omega) (by omega) h3
theorem endF_starts {s:ByteArray} {i:Nat} (hi:i<s.size) (he:endF s i (kindP (bt s i))<s.size):startsB s (endF s i (kindP (bt s i)))=true:=by
 by_cases hk:kindN (bt s i)=0
 ·have hl:=kindP_not hk
  have e:endF s i (kindP (bt s i))=i+1:=by unfold endF;rw [hl];rfl
  rw [e]
  unfold startsB
  rw [show i+1-1=i from rfl,hk]
  cases h:kindN (bt s (i+1)) == 0
  ·have:(0 == kindN (bt s (i+1)))=false:=by simp at h ⊢;omega
   rw [this];simp
  ·simp
 ·have hl:longB (kindP (bt s i))=true:=by
   rcases kindN_cases (bt s i) with hb|hb|hb
   ·rw [kindP_97 hb];rfl
   ·rw [kindP_48 hb];rfl
   ·exact absurd hb hk
  have e:endF s i (kindP (bt s i))=fwdF (fun j=>kindP (bt s j) == kindP (bt s i)) s.size (s.size-(i+1)) (i+1):=by unfold endF;rw [hl];rfl
  have hsp:=fwdF_spec (fun j=>kindP (bt s j) == kindP (bt s i)) s.size (s.size-(i+1)) (i+1)
  have hstop:=fwdF_stop (fun j=>kindP (bt s j) == kindP (bt s i)) s.size (s.size-(i+1)) (i+1) (by omega) (Nat.le_refl _) (by rw [← e];exact he)
  have hgt:=(endF_gt (k:=kindP (bt s i)) hi).1
  rw [← e] at hsp hstop
  generalize endF s i (kindP (bt s i))=t at *
  have hprev:kindN (bt s (t-1))=kindN (bt s i):=by
   by_cases ht:t-1=i
   ·rw [ht]
   ·have:=hsp (t-1) (by omega) (by omega)
    rw [kindP_eq_long hk] at this
    simpa using this
  rw [kindP_eq_long hk] at hstop
  unfold startsB
  rw [hprev]
  have:(kindN (bt s i) == kindN (bt s t))=false:=by
   have:=hstop;simp at this ⊢;omega
  rw [this];simp
theorem spansTo_end {s:ByteArray} {i:Nat} (hi:i<s.size) (h:startsB s i=true):spansTo s (endF s i (kindP (bt s i)))=spansTo s i++(bif kindP (bt s i) == 0 then [] else [⟨kindP (bt s i),i,endF s i (kindP (bt s i))⟩]):=by
 have hsp:=spanF_at hi h
 have hone:spansTo s (i+1)=spansTo s i++(bif kindP (bt s i) == 0 then [] else [⟨kindP (bt s i),i,endF s i (kindP (bt s i))⟩]):=by
  cases hk:kindP (bt s i) == 0
  ·rw [hk] at hsp
   rw [spansTo_yes (by rw [hsp];exact hk),hsp];rfl
  ·rw [hk] at hsp
   rw [spansTo_no (by rw [hsp];rfl)];simp
 rw [← hone]
 by_cases hk:kindN (bt s i)=0
 ·have hl:=kindP_not hk
  have e:endF s i (kindP (bt s i))=i+1:=by unfold endF;rw [hl];rfl
  rw [e]
 ·have hl:longB (kindP (bt s i))=true:=by
   rcases kindN_cases (bt s i) with hb|hb|hb
   ·rw [kindP_97 hb];rfl
   ·rw [kindP_48 hb];rfl
   ·exact absurd hb hk
  have e:endF s i (kindP (bt s i))=fwdF (fun j=>kindP (bt s j) == kindP (bt s i)) s.size (s.size-(i+1)) (i+1):=by unfold endF;rw [hl];rfl
  have hsp:=fwdF_spec (fun j=>kindP (bt s j) == kindP (bt s i)) s.size (s.size-(i+1)) (i+1)
  have hgt:=(endF_gt (k:=kindP (bt s i)) hi).1
  rw [← e] at hsp
  generalize endF s i (kindP (bt s i))=t at *
  have key:∀ n,i+1+n≤t→spansTo s (i+1+n)=spansTo s (i+1):=by
   intro n
   induction n with
   | zero=>intro _;rfl
   | succ n ih=>
    intro hn
    rw [← ih (by omega)]
    refine spansTo_no (k:=i+1+n) ?_
    have h1:=hsp (i+1+n) (by omega) (by omega)
    rw [kindP_eq_long hk] at h1
    have h1:kindN (bt s (i+1+n))=kindN (bt s i):=by simpa using h1
    have h2:kindN (bt s (i+1+n-1))=kindN (bt s i):=by
     by_cases hz:n=0
     ·subst hz;rfl
     ·have:=hsp (i+1+n-1) (by omega) (by omega)
      rw [kindP_eq_long hk] at this
      simpa using this
    unfold spanF
    have h32:(bt s (i+1+n) == 32)=false:=by
     have:bt s (i+1+n)≠32:=fun e=>hk (by rw [← h1,e];decide)
     simpa using this
    have h35:(bt s (i+1+n) == 35)=false:=by
     have:bt s (i+1+n)≠35:=fun e=>hk (by rw [← h1,e];decide)
     simpa using this
    have hk0:(kindN (bt s i) == 0)=false:=by simpa using hk
    rw [h32,h35,h1,h2,hk0]
    have hp:decide (0<i+1+n)=true:=by simp;omega
    simp [hp]
  have:=key (t-(i+1)) (by omega)
  rwa [show i+1+(t-(i+1))=t by omega] at this
theorem startsB_zero (s:ByteArray):startsB s 0=true:=by simp [startsB]
end Go.Proofs.YtgigkiocdiffjaaGreat
namespace Go.Proofs.YtgigkiocdiffjaaGreat
open Go.RowKit Veil
theorem kindOf_any (b:Nat) (w:World):Calls Tryz.prog 120 #[.int .u8 b] w fun e w'=>e=.returned (.int .i64 (kindP b))∧w=w':=by
 by_cases h1:97≤b
 ·by_cases h2:b≤122
  ·have HK:=hide (show kindP b=1 from kindP_97 (by simp [kindN,h1,h2]))
   have h1':(97:Int)≤(b:Int):=by omega
   have h2':(b:Int)≤122:=by omega
   clear h1 h2
   go_enter Tryz.func120,Tryz.ntmps120
   go_wp2
   go_ret
   exact⟨by rw [HK.out];rfl,rfl⟩
  ·have HK:=hide (show kindP b=4 by
    rw [kindP_0 (by unfold kindN;rw [if_neg (by omega),if_neg (by omega)])]
    have e1:(b == 35)=false:=by simp;omega
    have e2:(b == 32)=false:=by simp;omega
    rw [e1,e2];rfl)
   have h1':(97:Int)≤(b:Int):=by omega
   have h2':(122:Int)<(b:Int):=by omega
   have h3':(48:Int)≤(b:Int):=by omega
   have h4':(57:Int)<(b:Int):=by omega
   have h5':((b:Int) == 35)=false:=by simp;omega
   have h6':((b:Int) == 32)=false:=by simp;omega
   clear h1 h2
   go_enter Tryz.func120,Tryz.ntmps120
   go_wp2
   go_ret
   exact⟨by rw [HK.out];rfl,rfl⟩
 ·have h1':(b:Int)<97:=by omega
  by_cases h3:48≤b
  ·have h3':(48:Int)≤(b:Int):=by omega
   by_cases h4:b≤57
   ·have HK:=hide (show kindP b=2 from kindP_48 (by unfold kindN;rw [if_neg (by omega),if_pos (by omega)]))
    have h4':(b:Int)≤57:=by omega
    clear h1 h3 h4
    go_enter Tryz.func120,Tryz.ntmps120
    go_wp2
    go_ret
    exact⟨by rw [HK.out];rfl,rfl⟩
   ·have HK:=hide (show kindP b=4 by
     rw [kindP_0 (by unfold kindN;rw [if_neg (by omega),if_neg (by omega)])]
     have e1:(b == 35)=false:=by simp;omega
     have e2:(b == 32)=false:=by simp;omega
     rw [e1,e2];rfl)
    have h4':(57:Int)<(b:Int):=by omega
    have h5':((b:Int) == 35)=false:=by simp;omega
    have h6':((b:Int) == 32)=false:=by simp;omega
    clear h1 h3 h4
    go_enter Tryz.func120,Tryz.ntmps120
    go_wp2
    go_ret
    exact⟨by rw [HK.out];rfl,rfl⟩
  ·have h3':(b:Int)<48:=by omega
   have HP:=hide (kindP_0 (b:=b) (by unfold kindN;rw [if_neg (by omega),if_neg (by omega)]))
   cases h5:((b:Int) == 35)
   ·have e1:(b == 35)=false:=by simp at h5 ⊢;omega
    cases h6:((b:Int) == 32)
    ·have e2:(b == 32)=false:=by simp at h6 ⊢;omega
     rw [e1,e2] at HP
     clear h1 h3 e1 e2
     go_enter Tryz.func120,Tryz.ntmps120
     go_wp2
     go_ret
     exact⟨by rw [HP.out];rfl,rfl⟩
    ·have e2:(b == 32)=true:=by simp at h6 ⊢;omega
     rw [e1,e2] at HP
     clear h1 h3 e1 e2
     go_enter Tryz.func120,Tryz.ntmps120
     go_wp2
     go_ret
     exact⟨by rw [HP.out];rfl,rfl⟩
   ·have e1:(b == 35)=true:=by simp at h5 ⊢;omega
    rw [e1] at HP
    clear h1 h3 e1
    go_enter Tryz.func120,Tryz.ntmps120
    go_wp2
    go_ret
    exact⟨by rw [HP.out];rfl,rfl⟩
theorem isLong_any (k:Nat) (w:World):Calls Tryz.prog 155 #[.int .i64 k] w fun e w'=>e=.returned (.bool (longB k))∧w=w':=by
 cases h1:((k:Int) == 1)
 ·have e1:(k == 1)=false:=by simp at h1 ⊢;omega
  cases h2:((k:Int) == 2)
  ·have e2:(k == 2)=false:=by simp at h2 ⊢;omega
   have HL:=hide (show longB k=false by simp [longB,e1,e2])
   clear e1 e2
   go_enter Tryz.func155,Tryz.ntmps155
   go_wp2
   go_ret
   exact⟨by rw [HL.out];rfl,rfl⟩
  ·have e2:(k == 2)=true:=by simp at h2 ⊢;omega
   have HL:=hide (show longB k=true by simp [longB,e2])
   clear e1 e2
   go_enter Tryz.func155,Tryz.ntmps155
   go_wp2
   go_ret
   exact⟨by rw [HL.out];rfl,rfl⟩
 ·have e1:(k == 1)=true:=by simp at h1 ⊢;omega
  have HL:=hide (show longB k=true by simp [longB,e1])
  clear e1
  go_enter Tryz.func155,Tryz.ntmps155
  go_wp2
  go_ret
  exact⟨by rw [HL.out];rfl,rfl⟩
theorem endOf_any (s:ByteArray) (i k:Nat) (w:World) (hi:i<s.size) (hs:s.size≤140737488355328) :
  Calls Tryz.prog 121 #[.string s,.int .i64 i,.int .i64 k] w fun e w'=>e=.returned (.int .i64 (endF s i k))∧w=w':=by
 have HIL:=hide (fun (w':World)=>isLong_any k w')
 have HKO:=hide (fun (b:Nat) (w':World)=>kindOf_any b w')
 have HBT:=hide (fun (j:Nat) (h:j<s.size)=>bt_get s j h)
 cases hl:longB k
 ·have HE:=hide (show endF s i k=i+1 by unfold endF;rw [hl];rfl)
  rw [hl] at HIL
  clear hl
  go_enter Tryz.func121,Tryz.ntmps121
  go_wp2
  go_loopw [7] (fun t wr=>t=.int .i64 ((i:Int)+1)∧w=wr) (fun _ _=>0)
  case atStart=>exact⟨by go_num,rfl⟩
  case round=>
   obtain⟨rfl,rfl⟩:=hrel
   go_wp2_with fail
   refine (HIL.out _).mono ?_
   rintro e w1 ⟨rfl,rfl⟩
   go_wp2
   go_ret
   exact⟨by rw [HE.out];rfl,rfl⟩
 ·have HE:=hide (show endF s i k=fwdF (fun j=>kindP (bt s j) == k) s.size (s.size-(i+1)) (i+1) by unfold endF;rw [hl];rfl)
  rw [hl] at HIL
  clear hl
  go_enter Tryz.func121,Tryz.ntmps121
  go_wp2
  go_loopw [7] (fun t wr=>∃ j:Nat,t=.int .i64 j∧i+1≤j∧j≤s.size∧fwdF (fun j=>kindP (bt s j) == k) s.size (s.size-(i+1)) (i+1)=fwdF (fun j=>kindP (bt s j) == k) s.size (s.size-j) j∧w=wr) (fun t _=>s.size-(intOf t).toNat)
  case atStart=>exact⟨i+1,by go_num,Nat.le_refl _,by omega,rfl,rfl⟩
  case round=>
   obtain⟨j,rfl,h1,h2,h3,rfl⟩:=hrel
   have HF:=hide h3
   clear h3
   go_wp2_with fail
   refine (HIL.out _).mono ?_
   rintro e w1 ⟨rfl,rfl⟩
   by_cases hj:j<s.size
   ·have hji:(j:Int)<(s.size:Int):=by omega
    have HB:=hide (HBT.out j hj)
    have HK1:=hide (HKO.out s[j].toNat w)
    rw [← HB.out] at HK1
    have HY:=hide (show (kindP (bt s j) == k)=true→_ from fun h=>fwdF_yes (p:=fun j=>kindP (bt s j) == k) hj h)
    have HN:=hide (show (kindP (bt s j) == k)=false→_ from fun h=>fwdF_no (p:=fun j=>kindP (bt s j) == k) (m:=s.size) (t:=j) h)
    generalize hq:kindP (bt s j)=q at *
    rw [HB.out] at HK1
    clear hq
    go_wp2_with fail
    refine (HK1.out).mono ?_
    rintro e w1 ⟨rfl,rfl⟩
    cases hqk:((q:Int) == (k:Int))
    ·have e1:(q == k)=false:=by simp at hqk ⊢;omega
     have HN1:=hide (HN.out e1)
     clear e1
     go_wp2
     go_ret
     exact⟨by rw [HE.out,HF.out,HN1.out];rfl,rfl⟩
    ·have e1:(q == k)=true:=by simp at hqk ⊢;omega
     have HY1:=hide (HY.out e1)
     clear e1
     go_wp2
     go_roundw
     case rel=>exact⟨j+1,by go_num,by omega,by omega,by rw [HF.out,HY1.out],trivial⟩
     case measure=>simp [intOf];omega
   ·obtain rfl:j=s.size:=by omega
    have hkc:decide ((s.size:Int)<(s.size:Int))=false:=by simp
    have HEN:=hide (fwdF_end (p:=fun j=>kindP (bt s j) == k) (m:=s.size))
    go_wp2
    go_ret
    exact⟨by rw [HE.out,HF.out,HEN.out];rfl,rfl⟩
end Go.Proofs.YtgigkiocdiffjaaGreat
namespace Go.Proofs.YtgigkiocdiffjaaGreat
open Go.RowKit Veil
theorem spOf_any (s:ByteArray) (w:World) (hs:s.size≤1000000) :
  Calls Tryz.prog 69 #[.string s] w fun e w'=>∃ vl,e=.returned vl∧OwnL 94 3 spV w' w.heap.size vl (spansTo s s.size)∧Below w.heap.size w w':=by
 have HKO:=hide (fun (b:Nat) (w':World)=>kindOf_any b w')
 have HEO:=hide (fun (i k:Nat) (w':World) (hi:i<s.size)=>endOf_any s i k w' hi (by omega))
 have HBT:=hide (fun (j:Nat) (h:j<s.size)=>bt_get s j h)
 go_enter Tryz.func69,Tryz.ntmps69
 go_wp2
 go_loopw [3,4] (fun vl i wr=>∃ k:Nat,k≤s.size∧i=.int .i64 k∧(k<s.size→startsB s k=true)∧OwnL 94 3 spV wr w.heap.size vl (spansTo s k)∧Below w.heap.size w wr) (fun _ i _=>s.size-(intOf i).toNat)
 case atStart=>exact⟨0,Nat.zero_le _,rfl,fun _=>startsB_zero s,OwnL.nil _ _ _ _ _,Below.refl _ _⟩
 case round=>
  obtain⟨wo,rfl⟩:∃ x,x=wr:=⟨_,rfl⟩
  obtain⟨k,hk,rfl,hst,hvl,hbel⟩:=hrel
  have HVL:=hide hvl
  have HST:=hide hst
  clear hvl hst
  by_cases hlt:k<s.size
  ·have hki:(k:Int)<(s.size:Int):=by omega
   have HB:=hide (HBT.out k hlt)
   have HK1:=hide (HKO.out s[k].toNat wo)
   have HE1:=hide (HEO.out k (kindP (bt s k)) wo hlt)
   have HSE:=hide (spansTo_end hlt (HST.out hlt))
   have HES:=hide (fun h=>endF_starts hlt h)
   have hgt:=endF_gt (s:=s) (i:=k) (k:=kindP (bt s k)) hlt
   have hln:=spansTo_length s k
   rw [← HB.out] at HK1
   generalize kindP (bt s k)=q at *
   generalize hee:endF s k q=t at *
   rw [HB.out] at HK1
   clear hee
   go_wp2_with fail
   refine (HK1.out).mono ?_
   rintro e w1 ⟨rfl,rfl⟩
   go_wp2_with fail
   refine (HE1.out).mono ?_
   rintro e w1 ⟨rfl,rfl⟩
   cases hq:((q:Int) == 0)
   ·have e1:(q == 0)=false:=by simp at hq ⊢;omega
    have hq':((q:Int) != 0)=true:=by simpa using hq
    rw [e1] at HSE
    have hbC:Below wo.heap.size wo (wo.alloc (.cells #[.int .i64 q,.int .i64 k,.int .i64 t] 94)):=below_box _ _
    have hbelC:=hbel.trans (hbC.mono hbel.size)
    have HVC:=hide (HVL.out.below hbC)
    have HNC:=hide (Go.heap_alloc_new wo (.cells #[.int .i64 q,.int .i64 k,.int .i64 t] 94))
    clear hq e1
    go_wp2_with (at_builtin;refine wpList_push rfl (.tmp 21) (.tmp 26) 69 rfl (.agg #[.int .i64 0,.int .i64 0,.int .i64 0]) 24 Tryz.underlying69 Tryz.infoSpan rfl (by decide) rfl HVC.out wo.heap.size 1 ⟨q,k,t⟩ rfl 94 (0,0) HNC.out rfl (by intro u hu;simp [spV] at hu;rcases hu with rfl|rfl|rfl <;> rfl) (by omega) (by decide) hbelC.size (wo.heap.size+1) (by simp) ?_;intro g6 cap6 w6 hown6 hgrow6 hat6 hlt6)
    have hb6:=hbelC.trans (below_of_grown hgrow6 (fun b hb=>(HVC.out.lt hb).1) hbelC.size)
    go_roundw
    case rel=>exact⟨t,hgt.2,by go_num,fun h=>HES.out h,by rw [HSE.out];exact hown6,hb6⟩
    case measure=>simp [intOf];omega
   ·have e1:(q == 0)=true:=by simp at hq ⊢;omega
    have hq':((q:Int) != 0)=false:=by simpa using hq
    rw [e1] at HSE
    clear hq e1
    go_wp2
    go_roundw
    case rel=>exact⟨t,hgt.2,by go_num,fun h=>HES.out h,by rw [HSE.out];simpa using HVL.out,hbel⟩
    case measure=>simp [intOf];omega
  ·obtain rfl:k=s.size:=by omega
   have hkc:decide ((s.size:Int)<(s.size:Int))=false:=by simp
   go_wp2
   go_ret
   exact⟨_,rfl,HVL.out,hbel⟩
theorem spans_le (s:ByteArray) (x:Sp) (hx:x ∈ spansTo s s.size):x.lo≤x.hi∧x.hi≤s.size:=by
 obtain⟨i,hi,rfl,_⟩:=mem_spansTo.1 hx
 exact spanF_le s i hi
theorem spFind_any (s p:ByteArray) (w:World) (hs:s.size≤1000000) (hp:validB p=true) :
  Calls Tryz.prog 138 #[.string s,.string p] w fun e w'=>∃ vl,e=.returned vl∧OwnL 94 3 spV w' w.heap.size vl (findTo s p (spansTo s s.size) (spansTo s s.size).length)∧Below w.heap.size w w':=by
 have HOF:=hide (spOf_any s w hs)
 have HIL:=hide (fun (k:Nat) (w':World)=>isLong_any k w')
 have HMT:=hide (fun (t:ByteArray) (w':World) (ht:t.size≤1000000)=>matches_yes p t w' hp (by simp only [maxLen];omega))
 have HLE:=hide (fun x hx=>spans_le s x hx)
 have hll:=spansTo_length s s.size
 generalize spansTo s s.size=L at *
 clear hp
 go_enter Tryz.func138,Tryz.ntmps138
 go_wp2_with fail
 refine (HOF.out).mono ?_
 rintro e w2 ⟨vs,rfl,hvs,hb2⟩
 have HVS:=hide hvs
 obtain⟨sao,scap,hvv⟩:=hvs.shape
 subst hvv
 clear hvs
 go_wp2
 go_loopw [6,13] (fun vo i wr=>∃ k:Nat,k≤L.length∧i=.int .i64 k∧OwnL 94 3 spV wr w2.heap.size vo (findTo s p L k)∧Below w2.heap.size w2 wr) (fun _ i _=>L.length-(intOf i).toNat)
 case atStart=>exact⟨0,Nat.zero_le _,rfl,OwnL.nil _ _ _ _ _,Below.refl _ _⟩
 case round=>
  obtain⟨wo,rfl⟩:∃ x,x=wr:=⟨_,rfl⟩
  obtain⟨k,hk,rfl,hvo,hbel⟩:=hrel
  have HVO:=hide hvo
  clear hvo
  by_cases hlt:k<L.length
  ·obtain⟨gs,sc,hvv,_,hgs⟩:=HVS.out.form (by omega)
   simp only [Value.slice.injEq] at hvv
   obtain⟨rfl,_,rfl⟩:=hvv
   have hej:L[k]?=some L[k]:=List.getElem?_eq_getElem hlt
   have c0:=HVS.out.cell (show ∀ a,(spV a).length=3 from fun _=>rfl) rfl hej (j:=0) (by omega)
   have c1:=HVS.out.cell (show ∀ a,(spV a).length=3 from fun _=>rfl) rfl hej (j:=1) (by omega)
   have c2:=HVS.out.cell (show ∀ a,(spV a).length=3 from fun _=>rfl) rfl hej (j:=2) (by omega)
   obtain⟨hx1,hx2⟩:=HLE.out _ (List.getElem_mem hlt)
   have HYES:=hide (fun h=>findTo_yes (s:=s) (p:=p) hej h)
   have HNO:=hide (fun h=>findTo_no (s:=s) (p:=p) hej h)
   have hfl:=findTo_length s p L k
   generalize L[k]=x at *
   obtain⟨x1,x2,x3⟩:=x
   simp only at hx1 hx2
   have d0:wo.cell? ⟨gs,k*3,none⟩=some (.int .i64 x1):=(hbel.cell (p:=⟨gs,k*3,none⟩) hgs).trans c0
   have d1:wo.cell? ⟨gs,k*3+1,none⟩=some (.int .i64 x2):=(hbel.cell (p:=⟨gs,k*3+1,none⟩) hgs).trans c1
   have d2:wo.cell? ⟨gs,k*3+2,none⟩=some (.int .i64 x3):=(hbel.cell (p:=⟨gs,k*3+2,none⟩) hgs).trans c2
   have hki:(k:Int)<(L.length:Int):=by omega
   have hx1i:(x2:Int)≤(x3:Int):=by omega
   have hx2i:(x3:Int)≤(s.size:Int):=by omega
   have HHB:=hide (show hitB s p ⟨x1,x2,x3⟩=(longB x1 && cutB (bytes p) (bytes (s.extract x2 x3))) from rfl)
   have hbB:Below wo.heap.size wo (wo.alloc (.cells #[.int .i64 x1,.int .i64 x2,.int .i64 x3] 94)):=below_box _ _
   have hbelB:=hbel.trans (hbB.mono hbel.size)
   have HIL1:=hide (HIL.out x1 (wo.alloc (.cells #[.int .i64 x1,.int .i64 x2,.int .i64 x3] 94)))
   have HMT1:=hide (HMT.out (s.extract x2 x3) (wo.alloc (.cells #[.int .i64 x1,.int .i64 x2,.int .i64 x3] 94)) (by rw [ByteArray.size_extract];omega))
   have HNB:=hide (Go.heap_alloc_new wo (.cells #[.int .i64 x1,.int .i64 x2,.int .i64 x3] 94))
   have HVB:=hide (HVO.out.below hbB)
   clear c0 c1 c2 hej
   cases hlg:longB x1
   ·have HN1:=hide (HNO.out (by rw [HHB.out,hlg];rfl))
    rw [hlg] at HIL1
    clear hlg
    go_wp2_with fail
    refine (HIL1.out).mono ?_
    rintro e w3 ⟨rfl,rfl⟩
    go_wp2
    go_roundw
    case rel=>exact⟨k+1,by omega,by go_num,by rw [HN1.out];exact HVB.out,hbelB⟩
    case measure=>simp [intOf];omega
   ·rw [hlg] at HIL1 HHB
    go_wp2_with fail
    refine (HIL1.out).mono ?_
    rintro e w3 ⟨rfl,rfl⟩
    go_wp2_with fail
    refine (HMT1.out).mono ?_
    rintro e w3 ⟨rfl,hb3⟩
    cases hcut:cutB (bytes p) (bytes (s.extract x2 x3))
    ·have HN1:=hide (HNO.out (by rw [HHB.out,hcut];rfl))
     have hbel3:=hbelB.trans (hb3.mono hbelB.size)
     have HV3:=hide (HVB.out.below hb3)
     go_wp2
     go_roundw
     case rel=>exact⟨k+1,by omega,by go_num,by rw [HN1.out];exact HV3.out,hbel3⟩
     case measure=>simp [intOf];omega
    ·have HY1:=hide (HYES.out (by rw [HHB.out,hcut];rfl))
     have hbel3:=hbelB.trans (hb3.mono hbelB.size)
     have HV3:=hide (HVB.out.below hb3)
     have HN3:=hide (Below.row hb3 HNB.out (by simp))
     have n0:w3.cell? ⟨wo.heap.size,0,none⟩=some (.int .i64 x1):=by rw [cell_of_row _ _ _ _ _ _ HN3.out];rfl
     have n1:w3.cell? ⟨wo.heap.size,1,none⟩=some (.int .i64 x2):=by rw [cell_of_row _ _ _ _ _ _ HN3.out];rfl
     have n2:w3.cell? ⟨wo.heap.size,2,none⟩=some (.int .i64 x3):=by rw [cell_of_row _ _ _ _ _ _ HN3.out];rfl
     have hbC:Below w3.heap.size w3 (w3.alloc (.cells #[.int .i64 x1,.int .i64 x2,.int .i64 x3] 94)):=below_box _ _
     have hbelC:=hbel3.trans (hbC.mono hbel3.size)
     have HVC:=hide (HV3.out.below hbC)
     have HNC:=hide (Go.heap_alloc_new w3 (.cells #[.int .i64 x1,.int .i64 x2,.int .i64 x3] 94))
     clear d0 d1 d2
     go_wp2_with (at_builtin;refine wpList_push rfl (.tmp 30) (.tmp 32) 69 rfl (.agg #[.int .i64 0,.int .i64 0,.int .i64 0]) 24 Tryz.underlying69 Tryz.infoSpan rfl (by decide) rfl HVC.out w3.heap.size 1 ⟨x1,x2,x3⟩ rfl 94 (0,0) HNC.out rfl (by intro u hu;simp [spV] at hu;rcases hu with rfl|rfl|rfl <;> rfl) (by omega) (by decide) hbelC.size (w3.heap.size+1) (by simp) ?_;intro g6 cap6 w6 hown6 hgrow6 hat6 hlt6)
     have hb6:=hbelC.trans (below_of_grown hgrow6 (fun b hb=>(HVC.out.lt hb).1) hbelC.size)
     go_roundw
     case rel=>exact⟨k+1,by omega,by go_num,by rw [HY1.out];exact hown6,hb6⟩
     case measure=>simp [intOf];omega
  ·obtain rfl:k=L.length:=by omega
   have hkc:decide ((L.length:Int)<(L.length:Int))=false:=by simp
   go_wp2
   go_ret
   exact⟨_,rfl,HVO.out.mono hb2.size,hb2.trans (hbel.mono hb2.size)⟩
end Go.Proofs.YtgigkiocdiffjaaGreat
namespace Go.Proofs.YtgigkiocdiffjaaGreat
open Go.RowKit Veil
def seV (x:Se):List Value:=[.int .i64 x.num,.int .u8 x.b,.bool x.hid,.bool x.free]
def byV (n:Nat):List Value:=[.int .u8 n]
def strV (s:ByteArray):List Value:=[.string s]
theorem Tryz.infoU8:(Tryz.prog.info? 5).map (fun i=>(i.zero,i.size,i.bytes))=some (some (.int .u8 0),1,1):=by kernel_rfl
theorem textF_congr {f g:Nat→Nat} {a b:Nat} (h:∀ j,a≤j→j<b→f j=g j):textF f a b=textF g a b:=by
 unfold textF
 congr 2
 apply List.map_congr_left
 intro j hj
 rw [List.mem_range'_1] at hj
 rw [h j hj.1 (by omega)]
theorem conv_own {w:World} {B:Nat} {vl:Value} {l:List Nat} (h:OwnL 5 1 byV w B vl l) (hb:∀ n,n ∈ l→n<256):(convert 164 9 vl).run Tryz.prog w=.ok (.string (textF (fun j=>l.getD j 0) 0 l.length)) w:=by
 by_cases hn:0<l.length
 ·obtain⟨g,cap,rfl,_,_⟩:=h.form hn
  have hl:(l.map UInt8.ofNat).length=l.length:=by simp
  have:=run_convert_bytes_back (P:=Tryz.prog) w 164 9 5 ⟨g,0,none⟩ cap (l.map UInt8.ofNat) Tryz.underlying164 Tryz.underlying5 Tryz.underlying9 (fun j hj=>by
   have hj':j<l.length:=by simpa using hj
   have hc:=h.cell (show ∀ a,(byV a).length=1 from fun _=>rfl) rfl (List.getElem?_eq_getElem hj') (j:=0) (by omega)
   have hadd:(⟨g,0,none⟩:Addr).add j=⟨g,j,none⟩:=by unfold Addr.add;split <;> simp_all
   rw [hadd]
   rw [Nat.mul_one,Nat.add_zero] at hc
   rw [hc]
   have:=hb _ (List.getElem_mem hj')
   simp only [byV,List.getElem?_cons_zero,List.getElem_map]
   congr 2
   have:(UInt8.ofNat l[j]).toNat=l[j]:=by simp;omega
   rw [this])
  rw [hl] at this
  rw [this]
  have he:l.map UInt8.ofNat=(List.range' 0 (l.length-0)).map fun j=>UInt8.ofNat (l.getD j 0):=by
   apply List.ext_getElem?
   intro j
   by_cases hj:j<l.length
   ·rw [List.getElem?_map,List.getElem?_map,List.getElem?_range' (by omega),List.getElem?_eq_getElem hj]
    simp [List.getD,List.getElem?_eq_getElem hj]
   ·rw [List.getElem?_eq_none (by simp;omega),List.getElem?_eq_none (by simp;omega)]
  rw [he]
  rfl
 ·have h0:l=[]:=List.eq_nil_of_length_eq_zero (by omega)
  subst h0
  obtain⟨ao,cap,rfl⟩:=h.shape
  rcases h.2 with⟨h1,_⟩|⟨g,cap',cur,h1,_⟩
  ·rw [h1]
   have:=run_convert_bytes_nil (P:=Tryz.prog) w 164 5 Tryz.underlying164 Tryz.underlying5 0 0 9 Tryz.underlying9
   rw [this];rfl
  ·rw [h1]
   have:=run_convert_bytes_back (P:=Tryz.prog) w 164 9 5 ⟨g,0,none⟩ cap' [] Tryz.underlying164 Tryz.underlying5 Tryz.underlying9 (fun j hj=>by simp at hj)
   exact this
theorem range_map_snoc (f:Nat→Nat) (k:Nat):(List.range (k+1)).map f=(List.range k).map f++[f k]:=by rw [List.range_succ,List.map_append];rfl
theorem seeB_at {S:List Se} {k:Nat} {x:Se} (h:S[k]?=some x):seeB S k=bif x.hid then 35 else x.b:=by
 unfold seeB seAt;simp [List.getD,h]
theorem seeB_lt {S:List Se} (h:∀ x,x ∈ S→x.b<256) (k:Nat):seeB S k<256:=by
 unfold seeB seAt
 cases hk:S[k]? with
 | none=>simp [List.getD,hk]
 | some x=>
  have:=h x (List.mem_of_getElem? hk)
  simp only [List.getD,hk,Option.getD_some]
  cases x.hid
  ·exact this
  ·exact (by decide:(35:Nat)<256)
theorem vwTextOf_any (S:List Se) (vs:Value) (w:World) (hvs:SeqV 4 seV w vs S) (hS:S.length≤1000000) (hb:∀ x,x ∈ S→x.b<256) :
  Calls Tryz.prog 150 #[vs] w fun e w'=>e=.returned (.string (seeT S))∧Below w.heap.size w w':=by
 obtain⟨ao,cap,gs,rfl,hao,hcs⟩:=hvs
 have HC:=hide hcs
 have HAO:=hide hao
 have HBY:=hide (seeB_lt hb)
 have HCV:=hide (fun (wz:World) (vl:Value) (h:OwnL 5 1 byV wz w.heap.size vl ((List.range S.length).map (seeB S)))=>conv_own h (fun n hn=>by obtain⟨j,_,rfl⟩:=List.mem_map.1 hn;exact seeB_lt hb j))
 have HTX:=hide (show textF (fun j=>((List.range S.length).map (seeB S)).getD j 0) 0 ((List.range S.length).map (seeB S)).length=seeT S by
  unfold seeT
  rw [List.length_map,List.length_range]
  exact textF_congr (fun j _ hj=>by simp [List.getD,hj]))
 rw [HTX.out] at HCV
 clear hcs hao hb HTX
 go_enter Tryz.func150,Tryz.ntmps150
 go_wp2
 go_loopw [3,8] (fun vl i wr=>∃ k:Nat,k≤S.length∧i=.int .i64 k∧OwnL 5 1 byV wr w.heap.size vl ((List.range k).map (seeB S))∧Below w.heap.size w wr) (fun _ i _=>S.length-(intOf i).toNat)
 case atStart=>exact⟨0,Nat.zero_le _,rfl,OwnL.nil _ _ _ _ _,Below.refl _ _⟩
 case round=>
  obtain⟨wo,rfl⟩:∃ x,x=wr:=⟨_,rfl⟩
  obtain⟨k,hk,rfl,hvl,hbel⟩:=hrel
  have HVL:=hide hvl
  clear hvl
  by_cases hlt:k<S.length
  ·have hki:(k:Int)<(S.length:Int):=by omega
   have hne:S≠[]:=fun e=>by rw [e] at hlt;simp at hlt
   obtain⟨rfl,hgs⟩:=HAO.out.resolve_left hne
   have hej:S[k]?=some S[k]:=List.getElem?_eq_getElem hlt
   have c0:=HC.out k _ hej 0 (by omega)
   have c1:=HC.out k _ hej 1 (by omega)
   have c2:=HC.out k _ hej 2 (by omega)
   have c3:=HC.out k _ hej 3 (by omega)
   have HSB:=hide (seeB_at hej)
   have HSN:=hide (range_map_snoc (seeB S) k)
   have hbl:=HBY.out k
   have hln:((List.range k).map (seeB S)).length=k:=by simp
   generalize S[k]=x at *
   obtain⟨x1,x2,x3,x4⟩:=x
   have d0:wo.cell? ⟨gs,k*4,none⟩=some (.int .i64 x1):=(hbel.cell (p:=⟨gs,k*4,none⟩) hgs).trans c0
   have d1:wo.cell? ⟨gs,k*4+1,none⟩=some (.int .u8 x2):=(hbel.cell (p:=⟨gs,k*4+1,none⟩) hgs).trans c1
   have d2:wo.cell? ⟨gs,k*4+2,none⟩=some (.bool x3):=(hbel.cell (p:=⟨gs,k*4+2,none⟩) hgs).trans c2
   have d3:wo.cell? ⟨gs,k*4+3,none⟩=some (.bool x4):=(hbel.cell (p:=⟨gs,k*4+3,none⟩) hgs).trans c3
   have hbB:Below wo.heap.size wo (wo.alloc (.cells #[.int .i64 x1,.int .u8 x2,.bool x3,.bool x4] 208)):=below_box _ _
   have hbelB:=hbel.trans (hbB.mono hbel.size)
   have HVB:=hide (HVL.out.below hbB)
   clear c0 c1 c2 c3 hej hne
   cases x3
   ·rw [show (bif (⟨x1,x2,false,x4⟩:Se).hid then 35 else (⟨x1,x2,false,x4⟩:Se).b)=x2 from rfl] at HSB
    rw [HSB.out] at HSN
    have hbC:=below_box (wo.alloc (.cells #[.int .i64 x1,.int .u8 x2,.bool false,.bool x4] 208)) (.cells #[.int .u8 x2] 5)
    have hbelC:=hbelB.trans (hbC.mono hbelB.size)
    have HVC:=hide (HVB.out.below hbC)
    have HNC:=hide (heap_alloc2_new wo (.cells #[.int .i64 x1,.int .u8 x2,.bool false,.bool x4] 208) (.cells #[.int .u8 x2] 5))
    go_wp2_with (at_builtin;refine wpList_push rfl (.tmp 17) (.tmp 20) 164 rfl (.int .u8 0) 1 Tryz.underlying164 Tryz.infoU8 rfl (by decide) rfl HVC.out (wo.heap.size+1) 1 x2 rfl 5 (0,0) HNC.out rfl (by intro u hu;simp [byV] at hu;rcases hu with rfl;rfl) (by omega) (by decide) hbelC.size (wo.heap.size+2) (by simp) ?_;intro g6 cap6 w6 hown6 hgrow6 hat6 hlt6)
    have hb6:=hbelC.trans (below_of_grown hgrow6 (fun b hb=>(HVC.out.lt hb).1) hbelC.size)
    go_roundw
    case rel=>exact⟨k+1,by omega,by go_num,by rw [HSN.out];simpa [hln] using hown6,hb6⟩
    case measure=>simp [intOf];omega
   ·rw [show (bif (⟨x1,x2,true,x4⟩:Se).hid then 35 else (⟨x1,x2,true,x4⟩:Se).b)=35 from rfl] at HSB
    rw [HSB.out] at HSN
    have hbC:=below_box (wo.alloc (.cells #[.int .i64 x1,.int .u8 x2,.bool true,.bool x4] 208)) (.cells #[.int .u8 35] 5)
    have hbelC:=hbelB.trans (hbC.mono hbelB.size)
    have HVC:=hide (HVB.out.below hbC)
    have HNC:=hide (heap_alloc2_new wo (.cells #[.int .i64 x1,.int .u8 x2,.bool true,.bool x4] 208) (.cells #[.int .u8 35] 5))
    go_wp2_with (at_builtin;refine wpList_push rfl (.tmp 14) (.tmp 15) 164 rfl (.int .u8 0) 1 Tryz.underlying164 Tryz.infoU8 rfl (by decide) rfl HVC.out (wo.heap.size+1) 1 35 rfl 5 (0,0) HNC.out rfl (by intro u hu;simp [byV] at hu;rcases hu with rfl;rfl) (by omega) (by decide) hbelC.size (wo.heap.size+2) (by simp) ?_;intro g6 cap6 w6 hown6 hgrow6 hat6 hlt6)
    have hb6:=hbelC.trans (below_of_grown hgrow6 (fun b hb=>(HVC.out.lt hb).1) hbelC.size)
    go_roundw
    case rel=>exact⟨k+1,by omega,by go_num,by rw [HSN.out];simpa [hln] using hown6,hb6⟩
    case measure=>simp [intOf];omega
  ·obtain rfl:k=S.length:=by omega
   have hkc:decide ((S.length:Int)<(S.length:Int))=false:=by simp
   have hcv:=HCV.out wo _ HVL.out
   go_wp2
   go_ret
   exact⟨rfl,hbel⟩
theorem plB_at {P:List Pl} {k:Nat} {p:Pl} (h:P[k]?=some p):plB P k=p.b:=by simp [plB,List.getD,h]
theorem vwText_any (P:List Pl) (vs:Value) (w:World) (hvs:SeqV 3 placeV w vs P) (hS:P.length≤1000000) (hb:∀ j,plB P j<256) :
  Calls Tryz.prog 108 #[vs] w fun e w'=>e=.returned (.string (viewT P))∧Below w.heap.size w w':=by
 obtain⟨ao,cap,gs,rfl,hao,hcs⟩:=hvs
 have HC:=hide hcs
 have HAO:=hide hao
 have HCV:=hide (fun (wz:World) (vl:Value) (h:OwnL 5 1 byV wz w.heap.size vl ((List.range P.length).map (plB P)))=>conv_own h (fun n hn=>by obtain⟨j,_,rfl⟩:=List.mem_map.1 hn;exact hb j))
 have HTX:=hide (show textF (fun j=>((List.range P.length).map (plB P)).getD j 0) 0 ((List.range P.length).map (plB P)).length=viewT P by
  unfold viewT
  rw [List.length_map,List.length_range]
  exact textF_congr (fun j _ hj=>by simp [List.getD,hj]))
 rw [HTX.out] at HCV
 clear hcs hao hb HTX
 go_enter Tryz.func108,Tryz.ntmps108
 go_wp2
 go_loopw [3,8] (fun vl i wr=>∃ k:Nat,k≤P.length∧i=.int .i64 k∧OwnL 5 1 byV wr w.heap.size vl ((List.range k).map (plB P))∧Below w.heap.size w wr) (fun _ i _=>P.length-(intOf i).toNat)
 case atStart=>exact⟨0,Nat.zero_le _,rfl,OwnL.nil _ _ _ _ _,Below.refl _ _⟩
 case round=>
  obtain⟨wo,rfl⟩:∃ x,x=wr:=⟨_,rfl⟩
  obtain⟨k,hk,rfl,hvl,hbel⟩:=hrel
  have HVL:=hide hvl
  clear hvl
  by_cases hlt:k<P.length
  ·have hki:(k:Int)<(P.length:Int):=by omega
   have hne:P≠[]:=fun e=>by rw [e] at hlt;simp at hlt
   obtain⟨rfl,hgs⟩:=HAO.out.resolve_left hne
   have hej:P[k]?=some P[k]:=List.getElem?_eq_getElem hlt
   have c0:=HC.out k _ hej 0 (by omega)
   have c1:=HC.out k _ hej 1 (by omega)
   have c2:=HC.out k _ hej 2 (by omega)
   have HSB:=hide (plB_at hej)
   have HSN:=hide (range_map_snoc (plB P) k)
   have hln:((List.range k).map (plB P)).length=k:=by simp
   generalize P[k]=x at *
   obtain⟨x1,x2,x3⟩:=x
   have d0:wo.cell? ⟨gs,k*3,none⟩=some (.int .u8 x1):=(hbel.cell (p:=⟨gs,k*3,none⟩) hgs).trans c0
   have d1:wo.cell? ⟨gs,k*3+1,none⟩=some (.int .i64 x2):=(hbel.cell (p:=⟨gs,k*3+1,none⟩) hgs).trans c1
   have d2:wo.cell? ⟨gs,k*3+2,none⟩=some (.int .i64 x3):=(hbel.cell (p:=⟨gs,k*3+2,none⟩) hgs).trans c2
   have hbB:Below wo.heap.size wo (wo.alloc (.cells #[.int .u8 x1,.int .i64 x2,.int .i64 x3] 131)):=below_box _ _
   have hbelB:=hbel.trans (hbB.mono hbel.size)
   have HVB:=hide (HVL.out.below hbB)
   clear c0 c1 c2 hej hne
   rw [HSB.out] at HSN
   have hbC:=below_box (wo.alloc (.cells #[.int .u8 x1,.int .i64 x2,.int .i64 x3] 131)) (.cells #[.int .u8 x1] 5)
   have hbelC:=hbelB.trans (hbC.mono hbelB.size)
   have HVC:=hide (HVB.out.below hbC)
   have HNC:=hide (heap_alloc2_new wo (.cells #[.int .u8 x1,.int .i64 x2,.int .i64 x3] 131) (.cells #[.int .u8 x1] 5))
   go_wp2_with (at_builtin;refine wpList_push rfl (.tmp 12) (.tmp 15) 164 rfl (.int .u8 0) 1 Tryz.underlying164 Tryz.infoU8 rfl (by decide) rfl HVC.out (wo.heap.size+1) 1 x1 rfl 5 (0,0) HNC.out rfl (by intro u hu;simp [byV] at hu;rcases hu with rfl;rfl) (by omega) (by decide) hbelC.size (wo.heap.size+2) (by simp) ?_;intro g6 cap6 w6 hown6 hgrow6 hat6 hlt6)
   have hb6:=hbelC.trans (below_of_grown hgrow6 (fun b hb=>(HVC.out.lt hb).1) hbelC.size)
   go_roundw
   case rel=>exact⟨k+1,by omega,by go_num,by rw [HSN.out];simpa [hln] using hown6,hb6⟩
   case measure=>simp [intOf];omega
  ·obtain rfl:k=P.length:=by omega
   have hkc:decide ((P.length:Int)<(P.length:Int))=false:=by simp
   have hcv:=HCV.out wo _ HVL.out
   go_wp2
   go_ret
   exact⟨rfl,hbel⟩
def PiecesAt (w:World) (g off:Nat) (P:List Pl):Prop:=g<w.heap.size∧∀ i p,P[i]?=some p→w.cell? ⟨g,off+i*3,none⟩=some (.int .u8 p.b)∧w.cell? ⟨g,off+i*3+1,none⟩=some (.int .i64 p.first)∧w.cell? ⟨g,off+i*3+2,none⟩=some (.int .i64 p.last)
theorem vwHave_any (P:List Pl) (g off cap:Nat) (w:World) (hvs:PiecesAt w g off P) (hS:P.length≤1000000) :
  Calls Tryz.prog 63 #[.slice (some ⟨g,off,none⟩) P.length cap] w fun e w'=>e=.returned (.bool (P.any fun p=>p.b == 35))∧Below w.heap.size w w':=by
 obtain⟨hgs,hcs⟩:=hvs
 have HC:=hide hcs
 clear hcs
 go_enter Tryz.func63,Tryz.ntmps63
 go_wp2
 go_loopw [7] (fun i wr=>∃ k:Nat,k≤P.length∧i=.int .i64 k∧((P.take k).any fun p=>p.b == 35)=false∧Below w.heap.size w wr) (fun i _=>P.length-(intOf i).toNat)
 case atStart=>exact⟨0,Nat.zero_le _,rfl,rfl,Below.refl _ _⟩
 case round=>
  obtain⟨wo,rfl⟩:∃ x,x=wr:=⟨_,rfl⟩
  obtain⟨k,hk,rfl,hno,hbel⟩:=hrel
  have HNO:=hide hno
  clear hno
  by_cases hlt:k<P.length
  ·have hki:(k:Int)<(P.length:Int):=by omega
   have hej:P[k]?=some P[k]:=List.getElem?_eq_getElem hlt
   obtain⟨c0,c1,c2⟩:=HC.out k _ hej
   have HS:=hide (any_snoc (fun p:Pl=>p.b == 35) P k _ hej)
   have HM:=hide (any_mem (fun p:Pl=>p.b == 35) P k _ hej)
   generalize P[k]=x at *
   obtain⟨x1,x2,x3⟩:=x
   have d0:wo.cell? ⟨g,off+k*3,none⟩=some (.int .u8 x1):=(hbel.cell (p:=⟨g,off+k*3,none⟩) hgs).trans c0
   have d1:wo.cell? ⟨g,off+k*3+1,none⟩=some (.int .i64 x2):=(hbel.cell (p:=⟨g,off+k*3+1,none⟩) hgs).trans c1
   have d2:wo.cell? ⟨g,off+k*3+2,none⟩=some (.int .i64 x3):=(hbel.cell (p:=⟨g,off+k*3+2,none⟩) hgs).trans c2
   have hbB:Below wo.heap.size wo (wo.alloc (.cells #[.int .u8 x1,.int .i64 x2,.int .i64 x3] 131)):=below_box _ _
   have hbelB:=hbel.trans (hbB.mono hbel.size)
   clear c0 c1 c2 hej
   simp only at HS HM
   cases hx:((x1:Int) == 35)
   ·have e1:(x1 == 35)=false:=by simp at hx ⊢;omega
    rw [e1] at HS
    clear HM e1
    go_wp2
    go_roundw
    case rel=>exact⟨k+1,by omega,by go_num,by rw [HS.out,HNO.out];rfl,hbelB⟩
    case measure=>simp [intOf];omega
   ·have e1:(x1 == 35)=true:=by simp at hx ⊢;omega
    have HT:=hide (HM.out e1)
    clear HS HM e1
    go_wp2
    go_ret
    exact⟨ret_bool (by rw [HT.out]),hbelB⟩
  ·obtain rfl:k=P.length:=by omega
   have hkc:decide ((P.length:Int)<(P.length:Int))=false:=by simp
   have HT:=hide (show (P.any fun p=>p.b == 35)=false by have:=HNO.out;rwa [List.take_length] at this)
   go_wp2
   go_ret
   exact⟨ret_bool (by rw [HT.out]),hbel⟩
end Go.Proofs.YtgigkiocdiffjaaGreat
