import Derived.Test.YtgigkiocdiffjabUKtwo
set_option maxRecDepth 100000
set_option maxHeartbeats 16000000
namespace Go.Proofs.Ytgigkiocdiffjab
open Go.RowKit Veil
def polled (s:PSt) (lv:Nat):PSt:=⟨s.row,s.L,s.V,updF s.W lv []⟩
def askK (k lv:Nat):KS:=⟨k,lv,0,0,0,⟨#[]⟩⟩
def stA (s:PSt) (lv k:Nat):PSt:=bif decide (k=11) then polled s lv else s
theorem kflat_le {α:Type} (f:α→List Int) (n:Nat) (hf:∀ a,(f a).length=n) (l:List α) (m:Nat) (h:l.length≤m):(l.flatMap f).length≤m*n:=by
 rw [kflat_len f n hf];exact Nat.mul_le_mul_right n h
theorem spansL_le {B g k:Nat} {w:World} {c:Cfg} {s:PSt} {p:PV} (h:PInv B w g c s p k) (lv:Nat):(spansL c s.row lv).length≤1200:=by
 unfold spansL
 rw [List.length_map]
 exact Nat.le_trans (spansTo_length _ _) (viewT_len c s.row lv h.rowGood)
theorem ans_le {B g k:Nat} {w:World} {c:Cfg} {s:PSt} {p:PV} (h:PInv B w g c s p k) (o:KS):(stepAns c s o).l.length≤1000000:=by
 obtain⟨_,_,_,_,hn,_,hn1⟩:=labels_of h.right.labels
 unfold stepAns
 split
 ·exact Nat.zero_le _
 split
 ·exact Nat.zero_le _
 split
 ·exact Nat.zero_le _
 split
 ·exact Nat.zero_le _
 split
 ·exact Nat.zero_le _
 cases hlv:okL c.labels o.level
 ·exact Nat.zero_le _
 obtain⟨lv,hlv1,hlv2⟩:=okL_nat' hn hlv
 rw [hlv1,Int.toNat_natCast]
 show (if o.kind=5 then _ else _:Ans).l.length≤1000000
 split
 ·exact Nat.zero_le _
 split
 ·exact Nat.le_trans (kflat_le nums3 3 (fun _=>rfl) _ 1200 (spansL_le h lv)) (by decide)
 split
 ·exact Nat.zero_le _
 split
 ·exact Nat.zero_le _
 split
 ·exact Nat.le_trans (kflat_le numsR 3 (fun _=>rfl) _ 8 (h.lok lv hlv2)) (by decide)
 ·exact Nat.le_trans (kflat_le numsN 2 (fun _=>rfl) _ 4 (h.wok lv hlv2).len) (by decide)
theorem ask_st {c:Cfg} {s:PSt} {k lv:Nat} (hc:(c.n:Int)=c.labels) (hlv:lv<c.n) (hk:5≤k) (hk2:k≤10):stepSt c s (askK k lv)=stA s lv (k+1):=by
 have e1:¬ ((k:Int)=1):=by omega
 have e2:¬ ((k:Int)=2):=by omega
 have e3:¬ ((k:Int)=3):=by omega
 have e4:¬ ((k:Int)=4):=by omega
 have hok:okL c.labels (lv:Int)=true:=by rw [← hc];exact okL_lt hlv
 simp only [stepSt,askK,e1,e2,e3,e4,if_false,hok,cond_true,Int.toNat_natCast,stA,polled]
 by_cases hk10:k=10
 ·subst hk10;rfl
 ·rw [if_neg (by omega),decide_eq_false (by omega)];rfl
theorem ask_e {c:Cfg} {s:PSt} {k lv:Nat} (hc:(c.n:Int)=c.labels) (hlv:lv<c.n) (hk:5≤k) (hk2:k≤10):(stepAns c s (askK k lv)).e=0:=by
 have hok:okL c.labels (lv:Int)=true:=by rw [← hc];exact okL_lt hlv
 have h6:k=5∨k=6∨k=7∨k=8∨k=9∨k=10:=by omega
 rcases h6 with rfl|rfl|rfl|rfl|rfl|rfl <;> simp [stepAns,askK,hok]
end Go.Proofs.Ytgigkiocdiffjab
