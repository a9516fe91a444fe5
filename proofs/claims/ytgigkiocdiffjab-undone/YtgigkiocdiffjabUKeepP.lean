import Derived.Test.YtgigkiocdiffjabU02
set_option maxRecDepth 100000
set_option maxHeartbeats 16000000
namespace Go.Proofs.Ytgigkiocdiffjab
open Go.RowKit Veil
def pickK (c n:Int):Int:=(if c<0 then -(c+1) else c).tmod n
theorem pickK_lt {c:Int} {n:Nat} (hc:-9223372036854775808≤c) (hn:0<n):∃ i:Nat,pickK c n=i∧i<n:=by
 have h0:0≤(if c<0 then -(c+1) else c):=by split <;> omega
 have h1:0≤pickK c n:=Int.tmod_nonneg _ h0
 have h2:pickK c n<n:=Int.tmod_lt_of_pos _ (by omega)
 obtain⟨i,hi⟩:=Int.eq_ofNat_of_zero_le h1
 exact⟨i,hi,by omega⟩
theorem kpick_any (c:Int) (n:Nat) (w:World) (hc:-9223372036854775808≤c∧c≤9223372036854775807) (hn:0<n) (hn2:n<2 ^ 57) :
  Calls Try.prog 8 #[.int .i64 c,.int .i64 n] w fun e w'=>e=.returned (.int .i64 (pickK c n))∧w=w':=by
 have hn3:(0:Int)<(n:Int):=by omega
 have hn4:((n:Int) == 0)=false:=by simp;omega
 have hn5:((n:Int) == -1)=false:=by simp
 by_cases h:c<0
 ·have HP:=hide (show pickK c n=(-(c+1)).tmod n by unfold pickK;rw [if_pos h])
  go_enter Try.func8,Try.ntmps8
  go_wp2
  go_ret
  exact⟨by rw [HP.out,Int.neg_tmod];rfl,rfl⟩
 ·have HP:=hide (show pickK c n=c.tmod n by unfold pickK;rw [if_neg h])
  go_enter Try.func8,Try.ntmps8
  go_wp2
  go_ret
  exact⟨by rw [HP.out,Int.tmod_eq_emod_of_nonneg (by omega)];rfl,rfl⟩
end Go.Proofs.Ytgigkiocdiffjab
