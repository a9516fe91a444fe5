import Derived.Test.YtgigkiocdiffjabU05
set_option maxRecDepth 100000
set_option maxHeartbeats 16000000
namespace Go.Proofs.Ytgigkiocdiffjab
open Go.RowKit Veil
theorem SeqAt.take {α:Type} {x y:α→Value} {w:World} {ao:Option Addr} {l:List α} (h:SeqAt x y w ao l) (k:Nat):SeqAt x y w ao (l.take k):=by
 rcases h with rfl|⟨b,off,h1,h2,h3⟩
 ·exact Or.inl (by simp)
 ·refine Or.inr ⟨b,off,h1,h2,fun i p hi=>h3 i p ?_⟩
  rw [List.getElem?_take] at hi
  split at hi
  ·exact hi
  ·simp at hi
theorem areRules_any (c:Cfg) (f:Nat→Nat→Bool) (ra:Option Addr) (rc:Nat) (w:World) (k1:c.rules.length<2 ^ 57) (hrc:c.rules.length≤rc) (htx:∀ r,r ∈ c.rules→r.1.size≤140737488355328) (hat:SeqAt xR yR w ra c.rules) :
  Calls Try.prog 72 #[.agg (ordC c.labels f),.slice ra c.rules.length rc] w fun e w'=>e=.returned (.bool (rulesB c))∧Below w.heap.size w w':=by
 have HTX:=hide htx
 have HE:=hide hat
 have HD:=hide (show rulesB c=(decide (c.rules.length≤8) && rulesToB c c.rules.length) from rfl)
 have hbox:=below_box w (.cells (ordC c.labels f) 84)
 have HO:=hide (ord_new w c.labels f)
 have HPAT:Hid (∀ (k:Nat) (rc':Nat) (t:ByteArray) (w':World),k<c.rules.length→Below w.heap.size w w'→Calls Try.prog 96 #[.slice ra k rc',.string t] w' fun e w''=>e=.returned (.bool (!noneOf (c.rules.take k) t))∧Below w'.heap.size w' w''):=fun k rc' t w' hk hb=>by
  have:=isPattern_any (c.rules.take k) ra rc' t w' (by rw [List.length_take];omega) ((hat.below hb).take k)
  rw [List.length_take,Nat.min_eq_left (by omega)] at this
  exact this
 clear hat htx
 generalize hL:c.labels=L at *
 by_cases h3:8<c.rules.length
 ·have h3':(8:Int)<(c.rules.length:Int):=by omega
  go_enter Try.func72,Try.ntmps72
  go_wp2
  go_ret
  exact⟨ret_bool (by rw [HD.out];simp;omega),hbox⟩
 have HR:=hide (show rulesB c=rulesToB c c.rules.length by rw [HD.out];simp [show c.rules.length≤8 by omega])
 clear HD
 go_enter Try.func72,Try.ntmps72
 go_wp2
 go_loopw [12] (fun i wr=>∃ k:Nat,k≤c.rules.length∧i=.int .i64 k∧rulesToB c k=true∧OrdAt wr w.heap.size L f∧Below w.heap.size w wr) (fun i _=>c.rules.length-(intOf i).toNat)
 case atStart=>exact⟨0,Nat.zero_le _,rfl,rfl,HO.out,hbox⟩
 case round=>
  clear HO hbox
  obtain⟨wo,rfl⟩:∃ x,x=wr:=⟨_,rfl⟩
  obtain⟨k,hk,rfl,hall,hO,hbel⟩:=hrel
  have HA:=hide hall
  have HO:=hide hO
  clear hall hO
  by_cases hlt:k<c.rules.length
  ·have hek:c.rules[k]?=some c.rules[k]:=List.getElem?_eq_getElem hlt
   obtain⟨b,off,hao,hbl,d1,d2⟩:=HE.out.at hbel hek
   have HS:=hide (rulesToB_succ c k _ hek)
   have hsz:=HTX.out _ (List.getElem_mem hlt)
   have hidx:∀ w',(Instr.indexAt 23 (.slice ra c.rules.length rc) (.int .i64 (k:Int))).run Try.prog w'=.ok (.pointer (some ⟨b,off+k*2,none⟩)) w':=by
    intro w'
    have hji:(k:Int)<(c.rules.length:Int):=by omega
    rw [hao]
    go_simp
   generalize c.rules[k]=e at *
   obtain⟨e1,e2⟩:=e
   simp only [xR,yR] at d1 d2 hsz
   have hsm:e1.size≤maxLen:=by unfold maxLen;omega
   have hbl2:b<wo.heap.size:=Nat.lt_of_lt_of_le hbl hbel.size
   have HOK:=hide (show ruleOk c k (e1,e2)=(validB e1 && okL L e2 && noneOf (c.rules.take k) e1) by rw [← hL];rfl)
   have HX:Hid (ruleOk c k (e1,e2)=false→rulesB c=false):=fun h=>by rw [HR.out,rulesToB_false c (k+1) _ (by rw [HS.out,h];simp) (by omega)]
   have hbel1:=hbel.alloc hbel.size (.cells #[.string e1,.int .i64 e2] 150)
   have hlt0:=HO.out.lt
   have HO1:Hid (OrdAt (wo.alloc (.cells #[.string e1,.int .i64 e2] 150)) w.heap.size L f):=row_alloc' HO.out
   have i1:=HO1.out.is
   have a1:=HO1.out.at
   have HHAS:=hide (fun w'=>has_any L f e2 w')
   have HVAL:=hide (fun w'=>valid_any e1 w' hsm)
   have hsl:∀ w',(Instr.slice 23 (.slice ra c.rules.length rc) none (some (.int .i64 (k:Int))) none).run Try.prog w'=.ok (.slice ra k rc) w':=by
    intro w'
    have hji:(k:Int)≤(rc:Int):=by omega
    rw [hao]
    go_simp
   have HM:Hid (∀ w1,Below (wo.alloc (.cells #[.string e1,.int .i64 e2] 150)).drew.heap.size (wo.alloc (.cells #[.string e1,.int .i64 e2] 150)).drew w1→w1.cell? ⟨wo.heap.size,0,none⟩=some (.string e1)∧Below w.heap.size w w1∧OrdAt w1 w.heap.size L f):=fun w1 h=>by
    refine⟨by rw [h.cell (p:=⟨wo.heap.size,0,none⟩) (by simp)];simp,hbel1.drew.trans (h.mono hbel1.drew.size),?_⟩
    exact OrdAt.below (w:=(wo.alloc (.cells #[.string e1,.int .i64 e2] 150)).drew) HO1.out h HO1.out.lt
   have HP:=hide (fun w'=>HPAT.out k rc e1 w' hlt)
   have hszo:wo.heap.size<(wo.alloc (.cells #[.string e1,.int .i64 e2] 150)).drew.heap.size:=by simp
   clear hek hao HPAT HTX HE HO HO1 hL h3 hbel hrc hbl
   cases g1:okL L e2
   ·have G1:=hide g1
    rw [g1] at HHAS
    clear g1
    go_wp2_with fail
    first|(go_region_with (go_at_call 36;refine (HHAS.out _).mono ?_;rintro e w1 ⟨rfl,hb1⟩))|fail "no"
    all_goals
     go_wp2
     go_ret
     exact⟨ret_bool (HX.out (by rw [HOK.out,G1.out];simp)).symm,(HM.out _ hb1).2.1⟩
   have G1:=hide g1
   rw [g1] at HHAS
   clear g1
   cases g2:validB e1
   ·have G2:=hide g2
    rw [g2] at HVAL
    clear g2
    go_wp2_with fail
    first|(go_region_with (first|(go_at_call 36;refine (HHAS.out _).mono ?_;rintro e w1 ⟨rfl,hb1⟩;have m1:=(HM.out _ hb1).1)|(go_at_call 95;refine (HVAL.out _).mono ?_;rintro e w2 ⟨rfl,rfl⟩)))|fail "no"
    all_goals
     go_wp2
     go_ret
     exact⟨ret_bool (HX.out (by rw [HOK.out,G2.out];simp)).symm,(HM.out _ hb1).2.1⟩
   have G2:=hide g2
   rw [g2] at HVAL
   clear g2
   cases g3:noneOf (c.rules.take k) e1
   ·have G3:=hide g3
    rw [g3] at HP
    clear g3
    go_wp2_with fail
    first|(go_region_with (first|(go_at_call 36;refine (HHAS.out _).mono ?_;rintro e w1 ⟨rfl,hb1⟩;have m1:=(HM.out _ hb1).1)|(go_at_call 95;refine (HVAL.out _).mono ?_;rintro e w2 ⟨rfl,rfl⟩)|(go_at_call 96;refine (HP.out _ (HM.out _ hb1).2.1).mono ?_;rintro e w3 ⟨rfl,hb3⟩)))|fail "no"
    all_goals
     go_wp2
     go_ret
     exact⟨ret_bool (HX.out (by rw [HOK.out,G3.out];simp)).symm,(HM.out _ hb1).2.1.trans (hb3.mono (HM.out _ hb1).2.1.size)⟩
   ·have G3:=hide g3
    rw [g3] at HP
    clear g3
    go_wp2_with fail
    first|(go_region_with (first|(go_at_call 36;refine (HHAS.out _).mono ?_;rintro e w1 ⟨rfl,hb1⟩;have m1:=(HM.out _ hb1).1)|(go_at_call 95;refine (HVAL.out _).mono ?_;rintro e w2 ⟨rfl,rfl⟩)|(go_at_call 96;refine (HP.out _ (HM.out _ hb1).2.1).mono ?_;rintro e w3 ⟨rfl,hb3⟩)))|fail "no"
    all_goals
     go_wp2
     go_roundw
     case rel=>
      have HOx:=(HM.out _ hb1).2.2
      exact⟨k+1,by omega,by go_num,by rw [HS.out,HA.out,HOK.out,G1.out,G2.out,G3.out];rfl,HOx.below hb3 HOx.lt,(HM.out _ hb1).2.1.trans (hb3.mono (HM.out _ hb1).2.1.size)⟩
     case measure=>simp [intOf];omega
  ·have hke:k=c.rules.length:=by omega
   have HT:=hide (show rulesToB c c.rules.length=true by rw [← hke];exact HA.out)
   go_wp2
   go_ret
   exact⟨ret_bool (by rw [HR.out,HT.out]),hbel⟩
end Go.Proofs.Ytgigkiocdiffjab
