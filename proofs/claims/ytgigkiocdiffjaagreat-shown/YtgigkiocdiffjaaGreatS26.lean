import Derived.Test.YtgigkiocdiffjaaGreatS25
import Derived.Test.YtgigkiocdiffjaaGreatS14
set_option maxRecDepth 100000
set_option maxHeartbeats 16000000
namespace Go.Proofs.YtgigkiocdiffjaaGreat
open Go.RowKit Veil
theorem dcInsert_lv (g n:Nat) (f:Nat→Nat→Bool) (rv pv:Value) (GR:Nat→Nat→Bool) (I:Nat→Nat) (Lg:NW) (level:Int) (a:Int) (s:ByteArray) (w:World) (hbox:PBox w g n f rv GR pv I Lg) (hlv:okL n level=false) :
  Calls Tryz.prog 24 #[.pointer (some ⟨g,0,none⟩),.int .i64 level,.int .i64 a,.string s] w fun e w'=>e=.returned (.int .i64 6)∧Below w.heap.size w w':=by
 have i0:=hbox.is
 have a0:=hbox.at
 have r0:=hbox.not
 have HQ:=hide (has_any n f level w)
 rw [hlv] at HQ
 clear hlv hbox
 go_enter Tryz.func24,Tryz.ntmps24
 go_wp2_with fail
 refine (HQ.out).mono ?_
 rintro e w1 ⟨rfl,hb1⟩
 clear i0 a0 r0
 go_wp2
 go_ret
 exact⟨rfl,hb1⟩
theorem dcInsert_at (c:Cfg) (row:List RC) (g n:Nat) (f:Nat→Nat→Bool) (rv pv:Value) (GR:Nat→Nat→Bool) (I:Nat→Nat) (Lg:NW) (B:Nat) (lv:Nat) (a:Int) (text:ByteArray) (w:World) (hbox:PBox w g n f rv GR pv I Lg) (hrl:OwnL 163 2 ruleV w B rv c.rules) (hce:OwnL 181 20 (pcV c) w B pv row) (hn:n=c.n) (hf:f=tT c) (hR:CfgRight c) (hrow:RowGood c row) (hlv:lv<c.n) (hat:a<0∨((placesR c row lv).length:Int)<a) :
  Calls Tryz.prog 24 #[.pointer (some ⟨g,0,none⟩),.int .i64 lv,.int .i64 a,.string text] w fun e w'=>e=.returned (.int .i64 7)∧Below w.heap.size w w':=by
 have HPL:=hide (fun (w':World) (hb:Below w.heap.size w w')=>dcPlaces_any c row g n f rv pv GR I Lg B lv w' (hbox.below hb hbox.lt) (hrl.below hb) (hce.below hb) hn hf hR hrow hlv)
 have HBX:=hide hbox
 have hgl:=hbox.lt
 have i0:=hbox.is
 have a0:=hbox.at
 have r0:=hbox.not
 have HQ:=hide (has_any n f lv w)
 rw [okL_lt (show lv<n by omega)] at HQ
 have hPl:(placesR c row lv).length≤1200:=Nat.le_trans (placesR_ok c row lv (fun x hx=>(hrow.cells x hx).1.byte)).1 hrow.length
 generalize placesR c row lv=P at *
 clear hbox hrl hce hn hf hR hrow hlv
 rcases hat with hat|hat
 ·have had:decide (a<0)=true:=by simpa using hat
  go_enter Tryz.func24,Tryz.ntmps24
  go_wp2_with fail
  refine (HQ.out).mono ?_
  rintro e w1 ⟨rfl,hb1⟩
  clear i0 a0 r0
  go_wp2_with fail
  refine (HPL.out _ hb1).mono ?_
  rintro e w2 ⟨vl,rfl,hvl,hb2⟩
  have hbw:=hb1.trans (hb2.mono hb1.size)
  have hw1s:=hb1.size
  have HVL:=hide hvl
  obtain⟨ao,cap,hvv⟩:=hvl.shape
  subst hvv
  clear hb1 hb2 hvl
  go_wp2
  go_ret
  exact⟨rfl,hbw⟩
 ·have h0:(0:Int)≤a:=by omega
  have had:decide ((P.length:Int)<a)=true:=by simpa using hat
  go_enter Tryz.func24,Tryz.ntmps24
  go_wp2_with fail
  refine (HQ.out).mono ?_
  rintro e w1 ⟨rfl,hb1⟩
  clear i0 a0 r0
  go_wp2_with fail
  refine (HPL.out _ hb1).mono ?_
  rintro e w2 ⟨vl,rfl,hvl,hb2⟩
  have hbw:=hb1.trans (hb2.mono hb1.size)
  have hw1s:=hb1.size
  have HVL:=hide hvl
  obtain⟨ao,cap,hvv⟩:=hvl.shape
  subst hvv
  clear hb1 hb2 hvl
  go_wp2
  go_ret
  exact⟨rfl,hbw⟩
theorem dcInsert_text (c:Cfg) (row:List RC) (g n:Nat) (f:Nat→Nat→Bool) (rv pv:Value) (GR:Nat→Nat→Bool) (I:Nat→Nat) (Lg:NW) (B:Nat) (lv a:Nat) (text:ByteArray) (w:World) (hbox:PBox w g n f rv GR pv I Lg) (hrl:OwnL 163 2 ruleV w B rv c.rules) (hce:OwnL 181 20 (pcV c) w B pv row) (hn:n=c.n) (hf:f=tT c) (hR:CfgRight c) (hrow:RowGood c row) (hlv:lv<c.n) (hal:a≤(placesR c row lv).length) (hts:text.size≤140737488355328) (htx:textOkB text=false) :
  Calls Tryz.prog 24 #[.pointer (some ⟨g,0,none⟩),.int .i64 lv,.int .i64 a,.string text] w fun e w'=>e=.returned (.int .i64 8)∧Below w.heap.size w w':=by
 have HPL:=hide (fun (w':World) (hb:Below w.heap.size w w')=>dcPlaces_any c row g n f rv pv GR I Lg B lv w' (hbox.below hb hbox.lt) (hrl.below hb) (hce.below hb) hn hf hR hrow hlv)
 have HBX:=hide hbox
 have hgl:=hbox.lt
 have i0:=hbox.is
 have a0:=hbox.at
 have r0:=hbox.not
 have HQ:=hide (has_any n f lv w)
 rw [okL_lt (show lv<n by omega)] at HQ
 have hPl:(placesR c row lv).length≤1200:=Nat.le_trans (placesR_ok c row lv (fun x hx=>(hrow.cells x hx).1.byte)).1 hrow.length
 generalize hP:placesR c row lv=P at *
 have HMY:=hide (fun (w':World)=>dcMay_any text w' (by omega))
 rw [htx] at HMY
 have ha0:(0:Int)≤(a:Int):=by omega
 have ha1:(a:Int)≤(P.length:Int):=by omega
 have ha2:decide ((P.length:Int)<(a:Int))=false:=by simp;omega
 have ha3:decide ((a:Int)<0)=false:=by simp
 clear hbox hrl hce hn hf hR hrow hlv
 clear htx hP hal
 go_enter Tryz.func24,Tryz.ntmps24
 go_wp2_with fail
 refine (HQ.out).mono ?_
 rintro e w1 ⟨rfl,hb1⟩
 clear i0 a0 r0
 go_wp2_with fail
 refine (HPL.out _ hb1).mono ?_
 rintro e w2 ⟨vl,rfl,hvl,hb2⟩
 have hbw:=hb1.trans (hb2.mono hb1.size)
 have hw1s:=hb1.size
 have HVL:=hide hvl
 obtain⟨ao,cap,hvv⟩:=hvl.shape
 subst hvv
 clear hb1 hb2 hvl
 go_wp2_with fail
 refine (HMY.out _).mono ?_
 rintro e w2' ⟨rfl,rfl⟩
 go_wp2
 go_ret
 exact⟨rfl,hbw⟩
theorem dcInsert_full (c:Cfg) (row:List RC) (g n:Nat) (f:Nat→Nat→Bool) (rv pv:Value) (GR:Nat→Nat→Bool) (I:Nat→Nat) (Lg:NW) (B:Nat) (lv a:Nat) (text:ByteArray) (w:World) (hbox:PBox w g n f rv GR pv I Lg) (hrl:OwnL 163 2 ruleV w B rv c.rules) (hce:OwnL 181 20 (pcV c) w B pv row) (hn:n=c.n) (hf:f=tT c) (hR:CfgRight c) (hrow:RowGood c row) (hlv:lv<c.n) (hal:a≤(placesR c row lv).length) (hts:text.size≤40) (htx:textOkB text=true) (hI:I lv≤200) (hq:200<I lv+text.size) :
  Calls Tryz.prog 24 #[.pointer (some ⟨g,0,none⟩),.int .i64 lv,.int .i64 a,.string text] w fun e w'=>e=.returned (.int .i64 9)∧Below w.heap.size w w':=by
 have hn6:n≤6:=by obtain⟨_,_,_,_,_,h,_⟩:=labels_of hR.labels;omega
 have hli:(lv:Int)<6:=by omega
 have hlv6:lv<6:=by omega
 have HPL:=hide (fun (w':World) (hb:Below w.heap.size w w')=>dcPlaces_any c row g n f rv pv GR I Lg B lv w' (hbox.below hb hbox.lt) (hrl.below hb) (hce.below hb) hn hf hR hrow hlv)
 have HBX:=hide hbox
 have hgl:=hbox.lt
 have i0:=hbox.is
 have a0:=hbox.at
 have r0:=hbox.not
 have HQ:=hide (has_any n f lv w)
 rw [okL_lt (show lv<n by omega)] at HQ
 have hPl:(placesR c row lv).length≤1200:=Nat.le_trans (placesR_ok c row lv (fun x hx=>(hrow.cells x hx).1.byte)).1 hrow.length
 generalize hP:placesR c row lv=P at *
 have HMY:=hide (fun (w':World)=>dcMay_any text w' (by omega))
 rw [htx] at HMY
 have ha0:(0:Int)≤(a:Int):=by omega
 have ha1:(a:Int)≤(P.length:Int):=by omega
 have ha2:decide ((P.length:Int)<(a:Int))=false:=by simp;omega
 have ha3:decide ((a:Int)<0)=false:=by simp
 clear hbox hrl hce hn hf hR hrow hlv
 clear htx hP hal
 go_enter Tryz.func24,Tryz.ntmps24
 go_wp2_with fail
 refine (HQ.out).mono ?_
 rintro e w1 ⟨rfl,hb1⟩
 clear i0 a0 r0
 go_wp2_with fail
 refine (HPL.out _ hb1).mono ?_
 rintro e w2 ⟨vl,rfl,hvl,hb2⟩
 have hbw:=hb1.trans (hb2.mono hb1.size)
 have hw1s:=hb1.size
 have HVL:=hide hvl
 obtain⟨ao,cap,hvv⟩:=hvl.shape
 subst hvv
 clear hb1 hb2 hvl
 go_wp2_with fail
 refine (HMY.out _).mono ?_
 rintro e w2' ⟨rfl,rfl⟩
 have c1:=(HBX.out.below hbw hgl).ins lv hlv6
 generalize I lv=il at c1 hI hq
 have hqi:(200:Int)<(il:Int)+(text.size:Int):=by omega
 go_wp2
 go_ret
 exact⟨rfl,hbw⟩
theorem behindR_at {P:List Pl} {a m:Nat} {p:Pl} (ha:a=m+1) (hm:P[m]?=some p):behindR P a=p.last+1:=by
 subst ha;unfold behindR plAt;simp [List.getD,hm]
def insF (I:Nat→Nat) (lv k:Nat):Nat→Nat:=fun i=>if i=lv then I lv+k else I i
theorem dcInsert_ok (c:Cfg) (row:List RC) (g n:Nat) (f:Nat→Nat→Bool) (rv pv:Value) (GR:Nat→Nat→Bool) (I:Nat→Nat) (Lg:NW) (B:Nat) (lv a:Nat) (text:ByteArray) (w:World) (hbox:PBox w g n f rv GR pv I Lg) (hrl:OwnL 163 2 ruleV w B rv c.rules) (hce:OwnL 181 20 (pcV c) w B pv row) (hn:n=c.n) (hf:f=tT c) (hR:CfgRight c) (hrow:RowGood c row) (hlv:lv<c.n) (hal:a≤(placesR c row lv).length) (hts:text.size≤40) (htx:textOkB text=true) (hq:I lv+text.size≤200) (R:World→Prop) (ht:∀ w1,(∃ v6,PBox w1 g n f rv GR v6 (insF I lv text.size) Lg∧OwnL 181 20 (pcV c) w1 w.heap.size v6 (putC row (newC text lv text.size) (behindR (placesR c row lv) a))∧Only (fun k=>k=g) w w1)→Calls Tryz.prog 59 #[.pointer (some ⟨g,124,none⟩),.int .i64 1,.int .i64 lv,.int .i64 lv] w1 fun e w'=>e=.returned (.tuple #[])∧R w') :
  Calls Tryz.prog 24 #[.pointer (some ⟨g,0,none⟩),.int .i64 lv,.int .i64 a,.string text] w fun e w'=>e=.returned (.int .i64 0)∧R w':=by
 have HT:=hide ht
 clear ht
 have hn6:n≤6:=by obtain⟨_,_,_,_,_,h,_⟩:=labels_of hR.labels;omega
 have hli:(lv:Int)<6:=by omega
 have hlv6:lv<6:=by omega
 have HRW:=hide (fun (w':World) (hb:Below w.heap.size w w') (k:Nat) (hk:k≤row.length)=>rwInsert_any c row g 74 n f pv B lv k text w' (hce.below hb) (hbox.below hb hbox.lt).row hk (by omega) (by have:=hrow.length;omega))
 have hrl1:=hrow.length
 have HPO:=hide (placesR_ok c row lv (fun x hx=>(hrow.cells x hx).1.byte)).2
 have HPL:=hide (fun (w':World) (hb:Below w.heap.size w w')=>dcPlaces_any c row g n f rv pv GR I Lg B lv w' (hbox.below hb hbox.lt) (hrl.below hb) (hce.below hb) hn hf hR hrow hlv)
 have HBX:=hide hbox
 have hgl:=hbox.lt
 have i0:=hbox.is
 have a0:=hbox.at
 have r0:=hbox.not
 have HQ:=hide (has_any n f lv w)
 rw [okL_lt (show lv<n by omega)] at HQ
 have hPl:(placesR c row lv).length≤1200:=Nat.le_trans (placesR_ok c row lv (fun x hx=>(hrow.cells x hx).1.byte)).1 hrow.length
 generalize hP:placesR c row lv=P at *
 have HMY:=hide (fun (w':World)=>dcMay_any text w' (by omega))
 rw [htx] at HMY
 have ha0:(0:Int)≤(a:Int):=by omega
 have ha1:(a:Int)≤(P.length:Int):=by omega
 have ha2:decide ((P.length:Int)<(a:Int))=false:=by simp;omega
 have ha3:decide ((a:Int)<0)=false:=by simp
 clear hbox hrl hce hn hf hR hrow hlv
 clear htx
 generalize hil:I lv=il at *
 have HIL:=hide hil
 have hqi:(il:Int)+(text.size:Int)≤200:=by omega
 clear hP hil
 go_enter Tryz.func24,Tryz.ntmps24
 go_wp2_with fail
 refine (HQ.out).mono ?_
 rintro e w1 ⟨rfl,hb1⟩
 clear i0 a0 r0
 go_wp2_with fail
 refine (HPL.out _ hb1).mono ?_
 rintro e w2 ⟨vl,rfl,hvl,hb2⟩
 have hbw:=hb1.trans (hb2.mono hb1.size)
 have hw1s:=hb1.size
 have HVL:=hide hvl
 obtain⟨ao,cap,hvv⟩:=hvl.shape
 subst hvv
 clear hb1 hb2 hvl
 go_wp2_with fail
 refine (HMY.out _).mono ?_
 rintro e w2' ⟨rfl,rfl⟩
 have c1:=(HBX.out.below hbw hgl).ins lv hlv6
 rw [HIL.out] at c1
 by_cases hap:0<a
 ·obtain⟨m,hm1,hm2⟩:∃ m:Nat,(a:Int)-1=(m:Int)∧a=m+1:=⟨a-1,by omega,by omega⟩
  have hapi:(0:Int)<(a:Int):=by omega
  have hmi:(m:Int)<(P.length:Int):=by omega
  obtain⟨gp,cp,hvv,hgp0,hgp⟩:=HVL.out.form (by omega)
  simp only [Value.slice.injEq] at hvv
  obtain⟨rfl,_,rfl⟩:=hvv
  have hem:P[m]?=some (P[m]'(by omega)):=List.getElem?_eq_getElem (by omega)
  have p2:=HVL.out.cell (show ∀ a,(placeV a).length=3 from fun _=>rfl) rfl hem (j:=2) (by omega)
  have HBE:=hide (behindR_at hm2 hem)
  have hpo:=(HPO.out _ (List.getElem_mem (show m<P.length by omega))).lt
  generalize (P[m]'(by omega))=pm at *
  obtain⟨pm1,pm2,pm3⟩:=pm
  have p2':w2.cell? ⟨gp,m*3+2,none⟩=some (.int .i64 pm3):=p2
  simp only at hpo HBE
  have hp3:(pm3:Int)≤1200:=by omega
  have HRX:=hide (HRW.out w2 hbw (pm3+1) (by omega))
  have hcast:((pm3+1:Nat):Int)=(pm3:Int)+1:=by omega
  rw [hcast] at HRX
  have HM2:=hide hm2
  clear hem p2 hm2 hcast
  go_wp2_with fail
  refine (HRX.out).mono ?_
  rintro e w3 ⟨rfl,w6,v6,rfl,hb6,hown6⟩
  have HB6:=hide ((HBX.out.below (hbw.trans (hb6.mono hbw.size)) hgl).setCells v6)
  have c3:=HB6.out.ins lv hlv6
  have f3:=HB6.out.frozen (112+lv)
  rw [HIL.out] at c3
  have HB7:Hid (PBox ((w6.setCell ⟨g,111,none⟩ v6).drew.setCell ⟨g,112+lv,none⟩ (.int .i64 ((il+text.size:Nat):Int))) g n f rv GR v6 (insF I lv text.size) Lg):=PBox.setIns (w:=(w6.setCell ⟨g,111,none⟩ v6).drew) (x:=il+text.size) HB6.out hlv6 (fun i _=>by unfold insF;by_cases hi:i=lv <;> simp [hi,HIL.out])
  have hne6:∀ b,v6.ownBlock=some b→b≠g:=fun b h1=>by have:=(hown6.lt h1).1;have:=hbw.size;omega
  have HO7:Hid (OwnL 181 20 (pcV c) ((w6.setCell ⟨g,111,none⟩ v6).drew.setCell ⟨g,112+lv,none⟩ (.int .i64 ((il+text.size:Nat):Int))) w2.heap.size v6 (putC row (newC text lv text.size) (pm3+1))):=OwnL.setOther (w:=(w6.setCell ⟨g,111,none⟩ v6).drew) (hown6.setOther hne6) hne6
  have HN7:Hid (Only (fun k=>k=g) w ((w6.setCell ⟨g,111,none⟩ v6).drew.setCell ⟨g,112+lv,none⟩ (.int .i64 ((il+text.size:Nat):Int)))):=((Only.of_below (F:=fun k=>k=g) (hbw.trans (hb6.mono hbw.size))).setCell (a:=⟨g,111,none⟩) (v:=v6) rfl).drew.setCell (a:=⟨g,112+lv,none⟩) rfl
  have hnum:(il:Int)+(text.size:Int)=((il+text.size:Nat):Int):=by omega
  have hsb:w.heap.size≤w2.heap.size:=hbw.size
  have HNUM:=hide hnum
  have HWQ:=hide (show IntKind.i64.wrap ((il:Int)+(text.size:Int))=(il:Int)+(text.size:Int) by rw [IntKind.wrap_i64];omega)
  clear hb6 hown6 hnum
  go_wp2_with fail
  refine wp_region_held_drew (S:=(fun (_:World)=>True)) (by kernel_rfl) ?_ (fun hHeld=>?_)
  ·exact trivial
  refine tV 0 58 ?_
  (try simp only [Act.put,lA,lZ,lS])
  refine tV 1 59 ?_
  (try simp only [Act.put,lA,lZ,lS])
  refine tV 2 60 ?_
  (try simp only [Act.put,lA,lZ,lS])
  refine tV 3 61 ?_
  (try simp only [Act.put,lA,lZ,lS])
  refine tV 4 62 ?_
  (try simp only [Act.put,lA,lZ,lS])
  refine tV 6 64 ?_
  (try simp only [Act.put,lA,lZ,lS])
  refine tV 7 65 ?_
  (try simp only [Act.put,lA,lZ,lS])
  refine tV 9 67 ?_
  (try simp only [Act.put,lA,lZ,lS])
  refine tV 10 68 ?_
  (try simp only [Act.put,lA,lZ,lS])
  refine wpAnyH_ready (rs:=[5]) (by kernel_rfl) (by simp) ?_
  refine AllReadyH.cons rfl (fun K hK=>?_) AllReadyH.nil
  go_simp
  refine hK.out _ _ ?_ (fun hHeld=>?_)
  ·exact trivial
  clear hK K
  refine tV 8 66 ?_
  (try simp only [Act.put,lA,lZ,lS])
  refine tV 11 69 ?_
  (try simp only [Act.put,lA,lZ,lS])
  refine wpAnyH_ready (rs:=[12]) (by kernel_rfl) (by simp) ?_
  refine AllReadyH.cons rfl (fun K hK=>?_) AllReadyH.nil
  go_simp
  refine hK.out _ _ ?_ (fun hHeld=>?_)
  ·exact trivial
  clear hK K
  refine wpAnyH_done (by kernel_rfl) ?_ _
  go_wp2_with fail
  rw [HWQ.out]
  refine (HT.out _ ⟨v6,by rw [← HNUM.out] at HB7;exact HB7.out,by rw [← HNUM.out] at HO7;rw [HBE.out];exact HO7.out.mono hsb,by rw [← HNUM.out] at HN7;exact HN7.out⟩).mono ?_
  rintro e w8 ⟨rfl,hR8⟩
  go_wp2
  go_ret
  exact⟨rfl,hR8⟩
 ·obtain rfl:a=0:=by omega
  have HBE:=hide (show behindR P 0=0 from rfl)
  have HRX:=hide (HRW.out w2 hbw 0 (by omega))
  have hcast:((0:Nat):Int)=0:=rfl
  rw [hcast] at HRX
  clear hcast hap
  go_wp2_with fail
  refine (HRX.out).mono ?_
  rintro e w3 ⟨rfl,w6,v6,rfl,hb6,hown6⟩
  have HB6:=hide ((HBX.out.below (hbw.trans (hb6.mono hbw.size)) hgl).setCells v6)
  have c3:=HB6.out.ins lv hlv6
  have f3:=HB6.out.frozen (112+lv)
  rw [HIL.out] at c3
  have HB7:Hid (PBox ((w6.setCell ⟨g,111,none⟩ v6).drew.setCell ⟨g,112+lv,none⟩ (.int .i64 ((il+text.size:Nat):Int))) g n f rv GR v6 (insF I lv text.size) Lg):=PBox.setIns (w:=(w6.setCell ⟨g,111,none⟩ v6).drew) (x:=il+text.size) HB6.out hlv6 (fun i _=>by unfold insF;by_cases hi:i=lv <;> simp [hi,HIL.out])
  have hne6:∀ b,v6.ownBlock=some b→b≠g:=fun b h1=>by have:=(hown6.lt h1).1;have:=hbw.size;omega
  have HO7:Hid (OwnL 181 20 (pcV c) ((w6.setCell ⟨g,111,none⟩ v6).drew.setCell ⟨g,112+lv,none⟩ (.int .i64 ((il+text.size:Nat):Int))) w2.heap.size v6 (putC row (newC text lv text.size) 0)):=OwnL.setOther (w:=(w6.setCell ⟨g,111,none⟩ v6).drew) (hown6.setOther hne6) hne6
  have HN7:Hid (Only (fun k=>k=g) w ((w6.setCell ⟨g,111,none⟩ v6).drew.setCell ⟨g,112+lv,none⟩ (.int .i64 ((il+text.size:Nat):Int)))):=((Only.of_below (F:=fun k=>k=g) (hbw.trans (hb6.mono hbw.size))).setCell (a:=⟨g,111,none⟩) (v:=v6) rfl).drew.setCell (a:=⟨g,112+lv,none⟩) rfl
  have hnum:(il:Int)+(text.size:Int)=((il+text.size:Nat):Int):=by omega
  have hsb:w.heap.size≤w2.heap.size:=hbw.size
  have HNUM:=hide hnum
  have HWQ:=hide (show IntKind.i64.wrap ((il:Int)+(text.size:Int))=(il:Int)+(text.size:Int) by rw [IntKind.wrap_i64];omega)
  clear hb6 hown6 hnum
  go_wp2_with fail
  refine wp_region_held_drew (S:=(fun (_:World)=>True)) (by kernel_rfl) ?_ (fun hHeld=>?_)
  ·exact trivial
  refine tV 0 58 ?_
  (try simp only [Act.put,lA,lZ,lS])
  refine tV 1 59 ?_
  (try simp only [Act.put,lA,lZ,lS])
  refine tV 2 60 ?_
  (try simp only [Act.put,lA,lZ,lS])
  refine tV 3 61 ?_
  (try simp only [Act.put,lA,lZ,lS])
  refine tV 4 62 ?_
  (try simp only [Act.put,lA,lZ,lS])
  refine tV 6 64 ?_
  (try simp only [Act.put,lA,lZ,lS])
  refine tV 7 65 ?_
  (try simp only [Act.put,lA,lZ,lS])
  refine tV 9 67 ?_
  (try simp only [Act.put,lA,lZ,lS])
  refine tV 10 68 ?_
  (try simp only [Act.put,lA,lZ,lS])
  refine wpAnyH_ready (rs:=[5]) (by kernel_rfl) (by simp) ?_
  refine AllReadyH.cons rfl (fun K hK=>?_) AllReadyH.nil
  go_simp
  refine hK.out _ _ ?_ (fun hHeld=>?_)
  ·exact trivial
  clear hK K
  refine tV 8 66 ?_
  (try simp only [Act.put,lA,lZ,lS])
  refine tV 11 69 ?_
  (try simp only [Act.put,lA,lZ,lS])
  refine wpAnyH_ready (rs:=[12]) (by kernel_rfl) (by simp) ?_
  refine AllReadyH.cons rfl (fun K hK=>?_) AllReadyH.nil
  go_simp
  refine hK.out _ _ ?_ (fun hHeld=>?_)
  ·exact trivial
  clear hK K
  refine wpAnyH_done (by kernel_rfl) ?_ _
  go_wp2_with fail
  rw [HWQ.out]
  refine (HT.out _ ⟨v6,by rw [← HNUM.out] at HB7;exact HB7.out,by rw [← HNUM.out] at HO7;rw [HBE.out];exact HO7.out.mono hsb,by rw [← HNUM.out] at HN7;exact HN7.out⟩).mono ?_
  rintro e w8 ⟨rfl,hR8⟩
  go_wp2
  go_ret
  exact⟨rfl,hR8⟩
end Go.Proofs.YtgigkiocdiffjaaGreat
