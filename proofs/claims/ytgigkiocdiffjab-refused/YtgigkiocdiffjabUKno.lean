import Derived.Test.YtgigkiocdiffjabUKask
set_option maxRecDepth 100000
set_option maxHeartbeats 16000000
namespace Go.Proofs.Ytgigkiocdiffjab
open Go.RowKit Veil
section
variable {F:Nat→Prop} {B g g2 k k2:Nat} {w w':World} {c:Cfg} {s s2:PSt}
theorem two_insert_no (h:Two F B w g g2 c s s2 k k2) (hk:k≤4000000000000) (level a:Int) (t:ByteArray) (code:Int) (hos:t.size≤140737488355328) (hcode:insCode c s.row level a t=code) (hne:(code == 0)=false) :
  Calls Try.prog 12 #[.pointer (some ⟨g,0,none⟩),.int .i64 level,.int .i64 a,.string t] w fun e w'=>e=.returned (.int .i64 code)∧Two F B w' g g2 c s s2 k k2∧LeftF F B w w':=by
 obtain⟨pa,pb,h1,h2,h3,h4⟩:=h
 refine (pInsert h1 hk level a t hos).mono ?_
 rintro e w' ⟨rfl,hr⟩
 rw [show insRes c s level a t=s by unfold insRes;rw [hcode,hne];rfl] at hr
 exact⟨by rw [hcode],two_same h1 h2 h3 h4 hr,PRes.left h1 (fun x hx=>⟨(h4 x hx).1,(h4 x hx).2.1⟩) hr⟩
theorem two_delete_no (h:Two F B w g g2 c s s2 k k2) (hk:k≤4000000000000) (level a b:Int) (code:Int) (hcode:delCode c s.row level a b=code) (hne:(code == 0)=false) :
  Calls Try.prog 14 #[.pointer (some ⟨g,0,none⟩),.int .i64 level,.int .i64 a,.int .i64 b] w fun e w'=>e=.returned (.int .i64 code)∧Two F B w' g g2 c s s2 k k2∧LeftF F B w w':=by
 obtain⟨pa,pb,h1,h2,h3,h4⟩:=h
 refine (pDelete h1 hk level a b).mono ?_
 rintro e w' ⟨rfl,hr⟩
 rw [show delRes c s level a b=s by unfold delRes;rw [hcode,hne];rfl] at hr
 exact⟨by rw [hcode],two_same h1 h2 h3 h4 hr,PRes.left h1 (fun x hx=>⟨(h4 x hx).1,(h4 x hx).2.1⟩) hr⟩
theorem two_raise_no (h:Two F B w g g2 c s s2 k k2) (hk:k≤4000000000000) (level a b lb:Int) (code:Int) (hcode:raiCode c s.row level a b lb=code) (hne:(code == 0)=false) :
  Calls Try.prog 26 #[.pointer (some ⟨g,0,none⟩),.int .i64 level,.int .i64 a,.int .i64 b,.int .i64 lb] w fun e w'=>e=.returned (.int .i64 code)∧Two F B w' g g2 c s s2 k k2∧LeftF F B w w':=by
 obtain⟨pa,pb,h1,h2,h3,h4⟩:=h
 refine (pRaise h1 hk level a b lb).mono ?_
 rintro e w' ⟨rfl,hr⟩
 rw [show raiRes c s level a b lb=s by unfold raiRes;rw [hcode,hne];rfl] at hr
 exact⟨by rw [hcode],two_same h1 h2 h3 h4 hr,PRes.left h1 (fun x hx=>⟨(h4 x hx).1,(h4 x hx).2.1⟩) hr⟩
theorem two_release_no (h:Two F B w g g2 c s s2 k k2) (hk:k≤4000000000000) (level a b lb:Int) (code:Int) (hcode:relCode c s level a b lb=code) (hne:(code == 0)=false) :
  Calls Try.prog 27 #[.pointer (some ⟨g,0,none⟩),.int .i64 level,.int .i64 a,.int .i64 b,.int .i64 lb] w fun e w'=>e=.returned (.int .i64 code)∧Two F B w' g g2 c s s2 k k2∧LeftF F B w w':=by
 obtain⟨pa,pb,h1,h2,h3,h4⟩:=h
 refine (pRelease h1 hk level a b lb).mono ?_
 rintro e w' ⟨rfl,hr⟩
 rw [show relRes c s level a b lb=s by unfold relRes;rw [hcode,hne];rfl] at hr
 exact⟨by rw [hcode],two_same h1 h2 h3 h4 hr,PRes.left h1 (fun x hx=>⟨(h4 x hx).1,(h4 x hx).2.1⟩) hr⟩
theorem two_poll_no (h:Two F B w g g2 c s s2 k k2) (level:Int) (hlv:okL c.labels level=false) :
  Calls Try.prog 34 #[.pointer (some ⟨g,0,none⟩),.int .i64 level] w fun e w'=>e=.returned (.tuple #[.slice none 0 0,.int .i64 6])∧Two F B w' g g2 c s s2 k k2∧LeftF F B w w':=by
 obtain⟨pa,pb,h1,h2,h3,h4⟩:=h
 refine (dcPoll_no g _ _ _ _ _ _ _ level w h1.own.box (by rw [h1.okL];exact hlv)).mono ?_
 rintro e w' ⟨rfl,hb⟩
 exact⟨rfl,Two.below ⟨pa,pb,h1,h2,h3,h4⟩ hb,LeftF.below hb h1.old (fun x hx=>(h4 x hx).1)⟩
theorem two_view (h:Two F B w g g2 c s s2 k k2) (lv:Nat) (hlv:lv<c.n) :
  Calls Try.prog 13 #[.pointer (some ⟨g,0,none⟩),.int .i64 lv] w fun e w'=>e=.returned (.tuple #[.string (viewT (placesR c s.row lv)),.int .i64 0])∧Two F B w' g g2 c s s2 k k2∧LeftF F B w w':=by
 obtain⟨pa,pb,h1,h2,h3,h4⟩:=h
 refine (dcView_ok c s.row g _ _ pa.rv pa.pv _ _ _ B lv w h1.own.box h1.own.rules h1.own.cells rfl rfl h1.right h1.rowGood hlv).mono ?_
 rintro e w' ⟨rfl,hb⟩
 exact⟨rfl,Two.below ⟨pa,pb,h1,h2,h3,h4⟩ hb,LeftF.below hb h1.old (fun x hx=>(h4 x hx).1)⟩
theorem two_look (h:Two F B w g g2 c s s2 k k2) (hk:k≤4000000000000) (o:KS) (hos:o.text.size≤140737488355328) (hst:stepSt c s o=s) :
  Calls Try.prog 9 #[.pointer (some ⟨g,0,none⟩),.agg o.cells] w fun e w'=>(∃ vl,e=.returned (.agg (toldC (stepAns c s o).e (stepAns c s o).n (stepAns c s o).s vl)))∧Two F B w' g g2 c s s2 k k2∧LeftF F B w w':=by
 obtain⟨pa,pb,h1,h2,h3,h4⟩:=h
 refine Calls.mono (does_any h1 hk o hos) ?_
 rintro e w' ⟨vl,rfl,ho,hr⟩
 rw [hst] at hr
 exact⟨⟨vl,rfl⟩,two_same h1 h2 h3 h4 hr,PRes.left h1 (fun x hx=>⟨(h4 x hx).1,(h4 x hx).2.1⟩) hr⟩
end
def textA:ByteArray:=⟨#[97]⟩
def textAM:ByteArray:=⟨#[97,35]⟩
section
variable {c:Cfg} {s:PSt} {lv:Nat}
theorem no_at (hc:(c.n:Int)=c.labels) (hlv:lv<c.n):insCode c s.row lv ((viewT (placesR c s.row lv)).size+1) textA=7:=by
 have hok:okL c.labels (lv:Int)=true:=by rw [← hc];exact okL_lt hlv
 unfold insCode
 rw [hok,Int.toNat_natCast,viewT_size,decide_eq_true (show ((placesR c s.row lv).length:Int)<((placesR c s.row lv).length:Int)+1 by omega),Bool.or_true]
 rfl
theorem no_text (hc:(c.n:Int)=c.labels) (hlv:lv<c.n):insCode c s.row lv 0 textAM=8:=by
 have hok:okL c.labels (lv:Int)=true:=by rw [← hc];exact okL_lt hlv
 have ht:textOkB textAM=false:=by decide +kernel
 have hl:¬ (((placesR c s.row lv).length:Int)<0):=by omega
 unfold insCode
 rw [hok,Int.toNat_natCast,ht]
 simp [hl]
theorem no_del (hc:(c.n:Int)=c.labels) (hlv:lv<c.n):delCode c s.row lv 0 0=7:=by
 have hok:okL c.labels (lv:Int)=true:=by rw [← hc];exact okL_lt hlv
 unfold delCode
 rw [hok,Int.toNat_natCast]
 simp [pieceB]
theorem no_rai (hc:(c.n:Int)=c.labels) (hlv:lv<c.n):raiCode c s.row lv 0 ((viewT (placesR c s.row lv)).size+1) lv=7:=by
 have hok:okL c.labels (lv:Int)=true:=by rw [← hc];exact okL_lt hlv
 have hp:pieceB 0 (((placesR c s.row lv).length:Int)+1) (placesR c s.row lv).length=false:=by unfold pieceB;simp;omega
 unfold raiCode
 rw [hok,Int.toNat_natCast,viewT_size,hp]
 rfl
theorem no_grant (hg:grantsB c=true):grF c lv lv=false:=by
 unfold grF
 rw [List.any_eq_false]
 intro x hx
 unfold grantsB at hg
 simp only [Bool.and_eq_true,List.all_eq_true] at hg
 have h1:=hg.2 x hx
 unfold grantOk at h1
 simp only [Bool.and_eq_true,Bool.not_eq_true',beq_eq_false_iff_ne] at h1
 unfold grantIs
 intro h2
 simp only [Bool.and_eq_true,beq_iff_eq] at h2
 exact h1.1.2 (h2.1.trans h2.2.symm)
theorem no_rel (hg:grantsB c=true) (hc:(c.n:Int)=c.labels) (hlv:lv<c.n):relCode c s lv 0 1 lv=10:=by
 have hok:okL c.labels (lv:Int)=true:=by rw [← hc];exact okL_lt hlv
 unfold relCode
 rw [hok,Int.toNat_natCast,no_grant hg]
 rfl
theorem no_lv:insCode c s.row c.labels 0 textA=6:=by
 have hok:okL c.labels c.labels=false:=by simp [okL]
 unfold insCode
 rw [hok]
 rfl
theorem no_m1:okL c.labels (-1)=false:=by simp [okL]
end
end Go.Proofs.Ytgigkiocdiffjab
