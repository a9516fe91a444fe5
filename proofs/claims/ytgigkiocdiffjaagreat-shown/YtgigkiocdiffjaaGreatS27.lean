import Derived.Test.YtgigkiocdiffjaaGreatS26
import Derived.Test.YtgigkiocdiffjaaGreatS16
import Derived.Test.YtgigkiocdiffjaaGreatS11
import Derived.Test.YtgigkiocdiffjaaGreatS17
set_option maxRecDepth 100000
set_option maxHeartbeats 16000000
namespace Go.Proofs.YtgigkiocdiffjaaGreat
open Go.RowKit Veil
theorem pslice {ao:Option Addr} {n cap a b:Nat} (hab:a≤b) (hbn:b≤n) (hnc:n≤cap) (hac:a<cap) (w:World):(Instr.slice 127 (.slice ao n cap) (some (.int .i64 (a:Int))) (some (.int .i64 (b:Int))) none).run Tryz.prog w=.ok (.slice (ao.map (·.add (a*3))) (b-a) (cap-a)) w:=by
 obtain⟨i,hi,hzz⟩:=Option.map_eq_some_iff.1 Tryz.infoPPlace
 simp only [Prod.mk.injEq] at hzz
 have h0:(0:Int)≤(a:Int)∧(a:Int)≤(b:Int):=by omega
 have h1:(0:Int)≤(b:Int)∧(b:Int)≤(cap:Int):=by omega
 have hc:¬ cap=a:=by omega
 simp [Instr.slice,run_underlying Tryz.underlying127,Instr.sliceBounds,Instr.sliceBound,asIntOf,h0,h1,sizeOf,typeInfo,hi,hzz.2.1,hc]
 rw [if_pos (by omega),if_pos (by omega)]
theorem pieces_at {w:World} {B gp cap:Nat} {P:List Pl} {a b:Nat} (h:OwnL 131 3 placeV w B (.slice (some ⟨gp,0,none⟩) P.length cap) P):PiecesAt w gp (a*3) ((P.drop a).take (b-a)):=by
 refine⟨(h.lt (k:=gp) rfl).2,fun i p hp=>?_⟩
 have hp':P[a+i]?=some p:=by
  rw [List.getElem?_take] at hp
  split at hp
  ·rw [List.getElem?_drop] at hp;exact hp
  ·cases hp
 have c0:=h.cell (show ∀ a,(placeV a).length=3 from fun _=>rfl) rfl hp' (j:=0) (by omega)
 have c1:=h.cell (show ∀ a,(placeV a).length=3 from fun _=>rfl) rfl hp' (j:=1) (by omega)
 have c2:=h.cell (show ∀ a,(placeV a).length=3 from fun _=>rfl) rfl hp' (j:=2) (by omega)
 have e:(a+i)*3=a*3+i*3:=by rw [Nat.add_mul]
 rw [e] at c0 c1 c2
 exact⟨c0,c1,c2⟩
theorem dcRelease_lv (g n:Nat) (f:Nat→Nat→Bool) (rv pv:Value) (GR:Nat→Nat→Bool) (I:Nat→Nat) (Lg:NW) (level:Int) (a b lb:Int) (w:World) (hbox:PBox w g n f rv GR pv I Lg) (hlv:okL n level=false) :
  Calls Tryz.prog 27 #[.pointer (some ⟨g,0,none⟩),.int .i64 level,.int .i64 a,.int .i64 b,.int .i64 lb] w fun e w'=>e=.returned (.int .i64 6)∧Below w.heap.size w w':=by
 have i0:=hbox.is
 have a0:=hbox.at
 have r0:=hbox.not
 have HQ:=hide (has_any n f level w)
 rw [hlv] at HQ
 clear hlv hbox
 go_enter Tryz.func27,Tryz.ntmps27
 go_wp2_with fail
 refine (HQ.out).mono ?_
 rintro e w1 ⟨rfl,hb1⟩
 clear i0 a0 r0
 go_wp2
 go_ret
 exact⟨rfl,hb1⟩
theorem dcRelease_lb (g n:Nat) (f:Nat→Nat→Bool) (rv pv:Value) (GR:Nat→Nat→Bool) (I:Nat→Nat) (Lg:NW) (level:Int) (a b lb:Int) (w:World) (hbox:PBox w g n f rv GR pv I Lg) (hlv:okL n level=true) (hlb:okL n lb=false) :
  Calls Tryz.prog 27 #[.pointer (some ⟨g,0,none⟩),.int .i64 level,.int .i64 a,.int .i64 b,.int .i64 lb] w fun e w'=>e=.returned (.int .i64 6)∧Below w.heap.size w w':=by
 have HBX:=hide hbox
 have hgl:=hbox.lt
 have i0:=hbox.is
 have a0:=hbox.at
 have r0:=hbox.not
 have HQ:=hide (has_any n f level w)
 have HQ2:=hide (fun w'=>has_any n f lb w')
 rw [hlv] at HQ
 rw [hlb] at HQ2
 clear hlv hlb hbox
 go_enter Tryz.func27,Tryz.ntmps27
 go_wp2_with fail
 refine (HQ.out).mono ?_
 rintro e w1 ⟨rfl,hb1⟩
 have i1:=(HBX.out.below hb1 hgl).is
 have a1:=(HBX.out.below hb1 hgl).at
 have r1:=(HBX.out.below hb1 hgl).not
 clear i0 a0 r0
 go_wp2_with fail
 refine (HQ2.out w1).mono ?_
 rintro e w1' ⟨rfl,hb1'⟩
 clear i1 a1 r1
 replace hb1:=hb1.trans (hb1'.mono hb1.size)
 clear hb1'
 go_wp2
 go_ret
 exact⟨rfl,hb1⟩
theorem dcRelease_gr (g n:Nat) (f:Nat→Nat→Bool) (rv pv:Value) (GR:Nat→Nat→Bool) (I:Nat→Nat) (Lg:NW) (lv tg:Nat) (a b:Int) (w:World) (hbox:PBox w g n f rv GR pv I Lg) (hn6:n≤6) (hlv:lv<n) (htg:tg<n) (hgr:GR lv tg=false) :
  Calls Tryz.prog 27 #[.pointer (some ⟨g,0,none⟩),.int .i64 lv,.int .i64 a,.int .i64 b,.int .i64 tg] w fun e w'=>e=.returned (.int .i64 10)∧Below w.heap.size w w':=by
 have hlv6:lv<6:=by omega
 have htg6:tg<6:=by omega
 have hli:(lv:Int)<6:=by omega
 have hti:(tg:Int)<6:=by omega
 have HBX:=hide hbox
 have hgl:=hbox.lt
 have i0:=hbox.is
 have a0:=hbox.at
 have r0:=hbox.not
 have HQ:=hide (has_any n f lv w)
 rw [okL_lt hlv] at HQ
 have HQ2:=hide (fun w'=>has_any n f tg w')
 rw [okL_lt htg] at HQ2
 clear hbox
 go_enter Tryz.func27,Tryz.ntmps27
 go_wp2_with fail
 refine (HQ.out).mono ?_
 rintro e w1 ⟨rfl,hb1⟩
 have i1:=(HBX.out.below hb1 hgl).is
 have a1:=(HBX.out.below hb1 hgl).at
 have r1:=(HBX.out.below hb1 hgl).not
 clear i0 a0 r0
 go_wp2_with fail
 refine (HQ2.out w1).mono ?_
 rintro e w1' ⟨rfl,hb1'⟩
 clear i1 a1 r1
 replace hb1:=hb1.trans (hb1'.mono hb1.size)
 clear hb1'
 have g1:=(HBX.out.below hb1 hgl).gr lv tg hlv6 htg6
 rw [hgr] at g1
 go_wp2
 go_ret
 exact⟨rfl,hb1⟩
theorem dcRelease_at (c:Cfg) (row:List RC) (g n:Nat) (f:Nat→Nat→Bool) (rv pv:Value) (GR:Nat→Nat→Bool) (I:Nat→Nat) (Lg:NW) (B:Nat) (lv tg:Nat) (a b:Int) (w:World) (hbox:PBox w g n f rv GR pv I Lg) (hrl:OwnL 163 2 ruleV w B rv c.rules) (hce:OwnL 181 20 (pcV c) w B pv row) (hn:n=c.n) (hf:f=tT c) (hR:CfgRight c) (hrow:RowGood c row) (hlv:lv<c.n) (htg:tg<c.n) (hgr:GR lv tg=true) (hpc:pieceB a b (placesR c row lv).length=false) :
  Calls Tryz.prog 27 #[.pointer (some ⟨g,0,none⟩),.int .i64 lv,.int .i64 a,.int .i64 b,.int .i64 tg] w fun e w'=>e=.returned (.int .i64 7)∧Below w.heap.size w w':=by
 have hn6:n≤6:=by have:=(labels_of hR.labels).2.2.2.2.2.1;omega
 have hlv6:lv<6:=by omega
 have htg6:tg<6:=by omega
 have hli:(lv:Int)<6:=by omega
 have hti:(tg:Int)<6:=by omega
 have HPL:=hide (fun (w':World) (hb:Below w.heap.size w w')=>dcPlaces_any c row g n f rv pv GR I Lg B lv w' (hbox.below hb hbox.lt) (hrl.below hb) (hce.below hb) hn hf hR hrow hlv)
 have HBX:=hide hbox
 have hgl:=hbox.lt
 have i0:=hbox.is
 have a0:=hbox.at
 have r0:=hbox.not
 have HQ:=hide (has_any n f lv w)
 rw [okL_lt (show lv<n by omega)] at HQ
 have HQ2:=hide (fun w'=>has_any n f tg w')
 rw [okL_lt (show tg<n by omega)] at HQ2
 have HPC:=hide (fun (w':World)=>dcPiece_any a b (placesR c row lv).length w')
 rw [hpc] at HPC
 generalize placesR c row lv=P at *
 clear hbox hrl hce hn hf hR hrow hlv htg
 clear hpc
 go_enter Tryz.func27,Tryz.ntmps27
 go_wp2_with fail
 refine (HQ.out).mono ?_
 rintro e w1 ⟨rfl,hb1⟩
 have i1:=(HBX.out.below hb1 hgl).is
 have a1:=(HBX.out.below hb1 hgl).at
 have r1:=(HBX.out.below hb1 hgl).not
 clear i0 a0 r0
 go_wp2_with fail
 refine (HQ2.out w1).mono ?_
 rintro e w1' ⟨rfl,hb1'⟩
 clear i1 a1 r1
 replace hb1:=hb1.trans (hb1'.mono hb1.size)
 clear hb1'
 have g1:=(HBX.out.below hb1 hgl).gr lv tg hlv6 htg6
 rw [hgr] at g1
 go_wp2_with fail
 refine (HPL.out _ hb1).mono ?_
 rintro e w2 ⟨vl,rfl,hvl,hb2⟩
 have hbw:=hb1.trans (hb2.mono hb1.size)
 have hw1s:=hb1.size
 have HVL:=hide hvl
 obtain⟨ao,cap,hvv⟩:=hvl.shape
 subst hvv
 clear hb1 hb2 hvl g1
 go_wp2_with fail
 refine (HPC.out _).mono ?_
 rintro e w2' ⟨rfl,rfl⟩
 go_wp2
 go_ret
 exact⟨rfl,hbw⟩
theorem dcRelease_mask (c:Cfg) (row:List RC) (g n:Nat) (f:Nat→Nat→Bool) (rv pv:Value) (GR:Nat→Nat→Bool) (I:Nat→Nat) (Lg:NW) (B:Nat) (lv a b tg:Nat) (w:World) (hbox:PBox w g n f rv GR pv I Lg) (hrl:OwnL 163 2 ruleV w B rv c.rules) (hce:OwnL 181 20 (pcV c) w B pv row) (hn:n=c.n) (hf:f=tT c) (hR:CfgRight c) (hrow:RowGood c row) (hlv:lv<c.n) (htg:tg<c.n) (hgr:GR lv tg=true) (hne:∀ b,pv.ownBlock=some b→g≠b) (hab:a<b) (hbl:b≤(placesR c row lv).length) (hmask:(((placesR c row lv).drop a).take (b-a)).any (fun p=>p.b == 35)=true) :
  Calls Tryz.prog 27 #[.pointer (some ⟨g,0,none⟩),.int .i64 lv,.int .i64 a,.int .i64 b,.int .i64 tg] w fun e w'=>e=.returned (.int .i64 11)∧Below w.heap.size w w':=by
 have hn6:n≤6:=by have:=(labels_of hR.labels).2.2.2.2.2.1;omega
 have hlv6:lv<6:=by omega
 have htg6:tg<6:=by omega
 have hli:(lv:Int)<6:=by omega
 have hti:(tg:Int)<6:=by omega
 have HPL:=hide (fun (w':World) (hb:Below w.heap.size w w')=>dcPlaces_any c row g n f rv pv GR I Lg B lv w' (hbox.below hb hbox.lt) (hrl.below hb) (hce.below hb) hn hf hR hrow hlv)
 have HBX:=hide hbox
 have hgl:=hbox.lt
 have i0:=hbox.is
 have a0:=hbox.at
 have r0:=hbox.not
 have HQ:=hide (has_any n f lv w)
 rw [okL_lt (show lv<n by omega)] at HQ
 have HQ2:=hide (fun w'=>has_any n f tg w')
 rw [okL_lt (show tg<n by omega)] at HQ2
 have HPC:=hide (fun (w':World)=>dcPiece_any a b (placesR c row lv).length w')
 have hpcB:pieceB a b (placesR c row lv).length=true:=by unfold pieceB;simp;omega
 rw [hpcB] at HPC
 have hPl:(placesR c row lv).length≤1200:=Nat.le_trans (placesR_ok c row lv (fun x hx=>(hrow.cells x hx).1.byte)).1 hrow.length
 have hrl12:=hrow.length
 have HHM:=hide (fun (g' cap':Nat) (w':World) (hp:PiecesAt w' g' (a*3) (((placesR c row lv).drop a).take (b-a)))=>vwHave_any (((placesR c row lv).drop a).take (b-a)) g' (a*3) cap' w' hp (by rw [List.length_take,List.length_drop];omega))
 have HSTM:=hide (fun (w':World) (hb:Below w.heap.size w w') (first last:Nat)=>rwStem_any c row g 74 n f pv B lv first last tg w' (hce.below hb) (hbox.below hb hbox.lt).row hn hf hR.labels (fun x hx=>(hrow.cells x hx).1) htg (by decide) (by omega))
 have HCMA:=hide (cells_meant_all c row lv (fun x hx=>(hrow.cells x hx).1.byte) hab hbl (mayR c row tg))
 have HMK:=hide (cells_meant c row lv (fun x hx=>(hrow.cells x hx).1.byte) hab hbl ⟨4,tg,0⟩)
 have HRW:=hide (fun (w':World) (hb:Below w.heap.size w w') (first last:Nat)=>rwRelease_any c row g 74 n f pv B lv tg first last w' (hce.below hb) (hbox.below hb hbox.lt).row hne hn hf hR.labels (fun x hx=>(hrow.cells x hx).1) htg (by decide) (by omega))
 have HPB:=hide (fun b' (h:pv.ownBlock=some b')=>(hce.lt h).2)
 generalize hP:placesR c row lv=P at *
 clear hbox hrl hce hn hf hR hrow hlv htg hpcB hne hP
 go_enter Tryz.func27,Tryz.ntmps27
 go_wp2_with fail
 refine (HQ.out).mono ?_
 rintro e w1 ⟨rfl,hb1⟩
 have i1:=(HBX.out.below hb1 hgl).is
 have a1:=(HBX.out.below hb1 hgl).at
 have r1:=(HBX.out.below hb1 hgl).not
 clear i0 a0 r0
 go_wp2_with fail
 refine (HQ2.out w1).mono ?_
 rintro e w1' ⟨rfl,hb1'⟩
 clear i1 a1 r1
 replace hb1:=hb1.trans (hb1'.mono hb1.size)
 clear hb1'
 have g1:=(HBX.out.below hb1 hgl).gr lv tg hlv6 htg6
 rw [hgr] at g1
 go_wp2_with fail
 refine (HPL.out _ hb1).mono ?_
 rintro e w2 ⟨vl,rfl,hvl,hb2⟩
 have hbw:=hb1.trans (hb2.mono hb1.size)
 have hw1s:=hb1.size
 have HVL:=hide hvl
 obtain⟨ao,cap,hvv⟩:=hvl.shape
 subst hvv
 clear hb1 hb2 hvl g1
 go_wp2_with fail
 refine (HPC.out _).mono ?_
 rintro e w2' ⟨rfl,rfl⟩
 obtain⟨gp,cp,hvv,hgp0,hgp⟩:=HVL.out.form (by omega)
 simp only [Value.slice.injEq] at hvv
 obtain⟨rfl,_,rfl⟩:=hvv
 have hcapP:P.length≤cap:=by
  obtain⟨cap',cur,h1,_,_,h4,_⟩:=HVL.out.row (g:=gp) rfl
  simp only [Value.slice.injEq] at h1
  omega
 have hsl:=pslice (ao:=some ⟨gp,0,none⟩) (n:=P.length) (cap:=cap) (a:=a) (b:=b) (by omega) (by omega) (by omega) (by omega)
 have HLT:=hide (show ((P.drop a).take (b-a)).length=b-a by rw [List.length_take,List.length_drop];omega)
 have HM1:=hide (HHM.out gp (cap-a) w2 (pieces_at HVL.out))
 rw [HLT.out] at HM1
 rw [hmask] at HM1
 go_wp2_with fail
 refine (HM1.out).mono ?_
 rintro e w3 ⟨rfl,hb3⟩
 have hbw3:=hbw.trans (hb3.mono hbw.size)
 clear hsl
 go_wp2
 go_ret
 exact⟨rfl,hbw3⟩
theorem dcRelease_stem (c:Cfg) (row:List RC) (g n:Nat) (f:Nat→Nat→Bool) (rv pv:Value) (GR:Nat→Nat→Bool) (I:Nat→Nat) (Lg:NW) (B:Nat) (lv a b tg:Nat) (w:World) (hbox:PBox w g n f rv GR pv I Lg) (hrl:OwnL 163 2 ruleV w B rv c.rules) (hce:OwnL 181 20 (pcV c) w B pv row) (hn:n=c.n) (hf:f=tT c) (hR:CfgRight c) (hrow:RowGood c row) (hlv:lv<c.n) (htg:tg<c.n) (hgr:GR lv tg=true) (hne:∀ b,pv.ownBlock=some b→g≠b) (hab:a<b) (hbl:b≤(placesR c row lv).length) (hmask:(((placesR c row lv).drop a).take (b-a)).any (fun p=>p.b == 35)=false) (hstem:(cellsTo c row lv (placesR c row lv) a b).all (mayR c row tg)=false) :
  Calls Tryz.prog 27 #[.pointer (some ⟨g,0,none⟩),.int .i64 lv,.int .i64 a,.int .i64 b,.int .i64 tg] w fun e w'=>e=.returned (.int .i64 12)∧Below w.heap.size w w':=by
 have hn6:n≤6:=by have:=(labels_of hR.labels).2.2.2.2.2.1;omega
 have hlv6:lv<6:=by omega
 have htg6:tg<6:=by omega
 have hli:(lv:Int)<6:=by omega
 have hti:(tg:Int)<6:=by omega
 have HPL:=hide (fun (w':World) (hb:Below w.heap.size w w')=>dcPlaces_any c row g n f rv pv GR I Lg B lv w' (hbox.below hb hbox.lt) (hrl.below hb) (hce.below hb) hn hf hR hrow hlv)
 have HBX:=hide hbox
 have hgl:=hbox.lt
 have i0:=hbox.is
 have a0:=hbox.at
 have r0:=hbox.not
 have HQ:=hide (has_any n f lv w)
 rw [okL_lt (show lv<n by omega)] at HQ
 have HQ2:=hide (fun w'=>has_any n f tg w')
 rw [okL_lt (show tg<n by omega)] at HQ2
 have HPC:=hide (fun (w':World)=>dcPiece_any a b (placesR c row lv).length w')
 have hpcB:pieceB a b (placesR c row lv).length=true:=by unfold pieceB;simp;omega
 rw [hpcB] at HPC
 have hPl:(placesR c row lv).length≤1200:=Nat.le_trans (placesR_ok c row lv (fun x hx=>(hrow.cells x hx).1.byte)).1 hrow.length
 have hrl12:=hrow.length
 have HHM:=hide (fun (g' cap':Nat) (w':World) (hp:PiecesAt w' g' (a*3) (((placesR c row lv).drop a).take (b-a)))=>vwHave_any (((placesR c row lv).drop a).take (b-a)) g' (a*3) cap' w' hp (by rw [List.length_take,List.length_drop];omega))
 have HSTM:=hide (fun (w':World) (hb:Below w.heap.size w w') (first last:Nat)=>rwStem_any c row g 74 n f pv B lv first last tg w' (hce.below hb) (hbox.below hb hbox.lt).row hn hf hR.labels (fun x hx=>(hrow.cells x hx).1) htg (by decide) (by omega))
 have HCMA:=hide (cells_meant_all c row lv (fun x hx=>(hrow.cells x hx).1.byte) hab hbl (mayR c row tg))
 have HMK:=hide (cells_meant c row lv (fun x hx=>(hrow.cells x hx).1.byte) hab hbl ⟨4,tg,0⟩)
 have HRW:=hide (fun (w':World) (hb:Below w.heap.size w w') (first last:Nat)=>rwRelease_any c row g 74 n f pv B lv tg first last w' (hce.below hb) (hbox.below hb hbox.lt).row hne hn hf hR.labels (fun x hx=>(hrow.cells x hx).1) htg (by decide) (by omega))
 have HPB:=hide (fun b' (h:pv.ownBlock=some b')=>(hce.lt h).2)
 generalize hP:placesR c row lv=P at *
 clear hbox hrl hce hn hf hR hrow hlv htg hpcB hne hP
 go_enter Tryz.func27,Tryz.ntmps27
 go_wp2_with fail
 refine (HQ.out).mono ?_
 rintro e w1 ⟨rfl,hb1⟩
 have i1:=(HBX.out.below hb1 hgl).is
 have a1:=(HBX.out.below hb1 hgl).at
 have r1:=(HBX.out.below hb1 hgl).not
 clear i0 a0 r0
 go_wp2_with fail
 refine (HQ2.out w1).mono ?_
 rintro e w1' ⟨rfl,hb1'⟩
 clear i1 a1 r1
 replace hb1:=hb1.trans (hb1'.mono hb1.size)
 clear hb1'
 have g1:=(HBX.out.below hb1 hgl).gr lv tg hlv6 htg6
 rw [hgr] at g1
 go_wp2_with fail
 refine (HPL.out _ hb1).mono ?_
 rintro e w2 ⟨vl,rfl,hvl,hb2⟩
 have hbw:=hb1.trans (hb2.mono hb1.size)
 have hw1s:=hb1.size
 have HVL:=hide hvl
 obtain⟨ao,cap,hvv⟩:=hvl.shape
 subst hvv
 clear hb1 hb2 hvl g1
 go_wp2_with fail
 refine (HPC.out _).mono ?_
 rintro e w2' ⟨rfl,rfl⟩
 obtain⟨gp,cp,hvv,hgp0,hgp⟩:=HVL.out.form (by omega)
 simp only [Value.slice.injEq] at hvv
 obtain⟨rfl,_,rfl⟩:=hvv
 have hcapP:P.length≤cap:=by
  obtain⟨cap',cur,h1,_,_,h4,_⟩:=HVL.out.row (g:=gp) rfl
  simp only [Value.slice.injEq] at h1
  omega
 have hsl:=pslice (ao:=some ⟨gp,0,none⟩) (n:=P.length) (cap:=cap) (a:=a) (b:=b) (by omega) (by omega) (by omega) (by omega)
 have HLT:=hide (show ((P.drop a).take (b-a)).length=b-a by rw [List.length_take,List.length_drop];omega)
 have HM1:=hide (HHM.out gp (cap-a) w2 (pieces_at HVL.out))
 rw [HLT.out] at HM1
 rw [hmask] at HM1
 go_wp2_with fail
 refine (HM1.out).mono ?_
 rintro e w3 ⟨rfl,hb3⟩
 have hbw3:=hbw.trans (hb3.mono hbw.size)
 clear hsl
 have hea:P[a]?=some (P[a]'(by omega)):=List.getElem?_eq_getElem (by omega)
 have heb:P[b-1]?=some (P[b-1]'(by omega)):=List.getElem?_eq_getElem (by omega)
 have HV3:=hide (HVL.out.below hb3)
 have p1:=HV3.out.cell (show ∀ a,(placeV a).length=3 from fun _=>rfl) rfl hea (j:=1) (by omega)
 have p2:=HV3.out.cell (show ∀ a,(placeV a).length=3 from fun _=>rfl) rfl heb (j:=2) (by omega)
 have hfa:plAt P a=P[a]'(by omega):=plAt_lt (by omega)
 have hlb1:plAt P (b-1)=P[b-1]'(by omega):=plAt_lt (by omega)
 rw [hfa,hlb1] at HMK HCMA
 generalize (P[a]'(by omega))=pa at *
 generalize (P[b-1]'(by omega))=pb at *
 obtain⟨m,hm1,hm2⟩:∃ m:Nat,(b:Int)-1=(m:Int)∧b-1=m:=⟨b-1,by omega,rfl⟩
 have hmi:(m:Int)<(P.length:Int):=by omega
 have hai:(a:Int)<(P.length:Int):=by omega
 have hwm:IntKind.i64.wrap (m:Int)=(m:Int):=by rw [IntKind.wrap_i64];omega
 rw [hm2] at p2
 obtain⟨pa1,pa2,pa3⟩:=pa
 obtain⟨pb1,pb2,pb3⟩:=pb
 have p1':w3.cell? ⟨gp,a*3+1,none⟩=some (.int .i64 pa2):=p1
 have p2':w3.cell? ⟨gp,m*3+2,none⟩=some (.int .i64 pb3):=p2
 simp only at HMK HCMA
 have HSE:=hide (show (List.range row.length).all (stemB c row lv pa2 pb3 tg)=(cellsTo c row lv P a b).all (mayR c row tg) from HCMA.out.symm)
 have HST1:=hide (HSTM.out w3 hbw3 pa2 pb3)
 rw [HSE.out,hstem] at HST1
 have HM2:=hide hm2
 clear hea heb p1 p2 hfa hlb1 hm2
 go_wp2_with fail
 refine (HST1.out).mono ?_
 rintro e w4 ⟨rfl,hb4⟩
 have hbw4:=hbw3.trans (hb4.mono hbw3.size)
 clear p1' p2'
 go_wp2
 go_ret
 exact⟨rfl,hbw4⟩
theorem dcRelease_full (c:Cfg) (row:List RC) (g n:Nat) (f:Nat→Nat→Bool) (rv pv:Value) (GR:Nat→Nat→Bool) (I:Nat→Nat) (Lg:NW) (B:Nat) (lv a b tg:Nat) (w:World) (hbox:PBox w g n f rv GR pv I Lg) (hrl:OwnL 163 2 ruleV w B rv c.rules) (hce:OwnL 181 20 (pcV c) w B pv row) (hn:n=c.n) (hf:f=tT c) (hR:CfgRight c) (hrow:RowGood c row) (hlv:lv<c.n) (htg:tg<c.n) (hgr:GR lv tg=true) (hne:∀ b,pv.ownBlock=some b→g≠b) (hab:a<b) (hbl:b≤(placesR c row lv).length) (hmask:(((placesR c row lv).drop a).take (b-a)).any (fun p=>p.b == 35)=false) (hstem:(cellsTo c row lv (placesR c row lv) a b).all (mayR c row tg)=true) (hfu:∀ w',Below w.heap.size w w'→Calls Tryz.prog 65 #[.pointer (some ⟨g,118,none⟩),.int .i64 tg] w' fun e w''=>e=.returned (.bool true)∧w'=w'') :
  Calls Tryz.prog 27 #[.pointer (some ⟨g,0,none⟩),.int .i64 lv,.int .i64 a,.int .i64 b,.int .i64 tg] w fun e w'=>e=.returned (.int .i64 13)∧Below w.heap.size w w':=by
 have hn6:n≤6:=by have:=(labels_of hR.labels).2.2.2.2.2.1;omega
 have hlv6:lv<6:=by omega
 have htg6:tg<6:=by omega
 have hli:(lv:Int)<6:=by omega
 have hti:(tg:Int)<6:=by omega
 have HPL:=hide (fun (w':World) (hb:Below w.heap.size w w')=>dcPlaces_any c row g n f rv pv GR I Lg B lv w' (hbox.below hb hbox.lt) (hrl.below hb) (hce.below hb) hn hf hR hrow hlv)
 have HBX:=hide hbox
 have hgl:=hbox.lt
 have i0:=hbox.is
 have a0:=hbox.at
 have r0:=hbox.not
 have HQ:=hide (has_any n f lv w)
 rw [okL_lt (show lv<n by omega)] at HQ
 have HQ2:=hide (fun w'=>has_any n f tg w')
 rw [okL_lt (show tg<n by omega)] at HQ2
 have HFU:=hide hfu
 clear hfu
 have HPC:=hide (fun (w':World)=>dcPiece_any a b (placesR c row lv).length w')
 have hpcB:pieceB a b (placesR c row lv).length=true:=by unfold pieceB;simp;omega
 rw [hpcB] at HPC
 have hPl:(placesR c row lv).length≤1200:=Nat.le_trans (placesR_ok c row lv (fun x hx=>(hrow.cells x hx).1.byte)).1 hrow.length
 have hrl12:=hrow.length
 have HHM:=hide (fun (g' cap':Nat) (w':World) (hp:PiecesAt w' g' (a*3) (((placesR c row lv).drop a).take (b-a)))=>vwHave_any (((placesR c row lv).drop a).take (b-a)) g' (a*3) cap' w' hp (by rw [List.length_take,List.length_drop];omega))
 have HSTM:=hide (fun (w':World) (hb:Below w.heap.size w w') (first last:Nat)=>rwStem_any c row g 74 n f pv B lv first last tg w' (hce.below hb) (hbox.below hb hbox.lt).row hn hf hR.labels (fun x hx=>(hrow.cells x hx).1) htg (by decide) (by omega))
 have HCMA:=hide (cells_meant_all c row lv (fun x hx=>(hrow.cells x hx).1.byte) hab hbl (mayR c row tg))
 have HMK:=hide (cells_meant c row lv (fun x hx=>(hrow.cells x hx).1.byte) hab hbl ⟨4,tg,0⟩)
 have HRW:=hide (fun (w':World) (hb:Below w.heap.size w w') (first last:Nat)=>rwRelease_any c row g 74 n f pv B lv tg first last w' (hce.below hb) (hbox.below hb hbox.lt).row hne hn hf hR.labels (fun x hx=>(hrow.cells x hx).1) htg (by decide) (by omega))
 have HPB:=hide (fun b' (h:pv.ownBlock=some b')=>(hce.lt h).2)
 generalize hP:placesR c row lv=P at *
 clear hbox hrl hce hn hf hR hrow hlv htg hpcB hne hP
 go_enter Tryz.func27,Tryz.ntmps27
 go_wp2_with fail
 refine (HQ.out).mono ?_
 rintro e w1 ⟨rfl,hb1⟩
 have i1:=(HBX.out.below hb1 hgl).is
 have a1:=(HBX.out.below hb1 hgl).at
 have r1:=(HBX.out.below hb1 hgl).not
 clear i0 a0 r0
 go_wp2_with fail
 refine (HQ2.out w1).mono ?_
 rintro e w1' ⟨rfl,hb1'⟩
 clear i1 a1 r1
 replace hb1:=hb1.trans (hb1'.mono hb1.size)
 clear hb1'
 have g1:=(HBX.out.below hb1 hgl).gr lv tg hlv6 htg6
 rw [hgr] at g1
 go_wp2_with fail
 refine (HPL.out _ hb1).mono ?_
 rintro e w2 ⟨vl,rfl,hvl,hb2⟩
 have hbw:=hb1.trans (hb2.mono hb1.size)
 have hw1s:=hb1.size
 have HVL:=hide hvl
 obtain⟨ao,cap,hvv⟩:=hvl.shape
 subst hvv
 clear hb1 hb2 hvl g1
 go_wp2_with fail
 refine (HPC.out _).mono ?_
 rintro e w2' ⟨rfl,rfl⟩
 obtain⟨gp,cp,hvv,hgp0,hgp⟩:=HVL.out.form (by omega)
 simp only [Value.slice.injEq] at hvv
 obtain⟨rfl,_,rfl⟩:=hvv
 have hcapP:P.length≤cap:=by
  obtain⟨cap',cur,h1,_,_,h4,_⟩:=HVL.out.row (g:=gp) rfl
  simp only [Value.slice.injEq] at h1
  omega
 have hsl:=pslice (ao:=some ⟨gp,0,none⟩) (n:=P.length) (cap:=cap) (a:=a) (b:=b) (by omega) (by omega) (by omega) (by omega)
 have HLT:=hide (show ((P.drop a).take (b-a)).length=b-a by rw [List.length_take,List.length_drop];omega)
 have HM1:=hide (HHM.out gp (cap-a) w2 (pieces_at HVL.out))
 rw [HLT.out] at HM1
 rw [hmask] at HM1
 go_wp2_with fail
 refine (HM1.out).mono ?_
 rintro e w3 ⟨rfl,hb3⟩
 have hbw3:=hbw.trans (hb3.mono hbw.size)
 clear hsl
 have hea:P[a]?=some (P[a]'(by omega)):=List.getElem?_eq_getElem (by omega)
 have heb:P[b-1]?=some (P[b-1]'(by omega)):=List.getElem?_eq_getElem (by omega)
 have HV3:=hide (HVL.out.below hb3)
 have p1:=HV3.out.cell (show ∀ a,(placeV a).length=3 from fun _=>rfl) rfl hea (j:=1) (by omega)
 have p2:=HV3.out.cell (show ∀ a,(placeV a).length=3 from fun _=>rfl) rfl heb (j:=2) (by omega)
 have hfa:plAt P a=P[a]'(by omega):=plAt_lt (by omega)
 have hlb1:plAt P (b-1)=P[b-1]'(by omega):=plAt_lt (by omega)
 rw [hfa,hlb1] at HMK HCMA
 generalize (P[a]'(by omega))=pa at *
 generalize (P[b-1]'(by omega))=pb at *
 obtain⟨m,hm1,hm2⟩:∃ m:Nat,(b:Int)-1=(m:Int)∧b-1=m:=⟨b-1,by omega,rfl⟩
 have hmi:(m:Int)<(P.length:Int):=by omega
 have hai:(a:Int)<(P.length:Int):=by omega
 have hwm:IntKind.i64.wrap (m:Int)=(m:Int):=by rw [IntKind.wrap_i64];omega
 rw [hm2] at p2
 obtain⟨pa1,pa2,pa3⟩:=pa
 obtain⟨pb1,pb2,pb3⟩:=pb
 have p1':w3.cell? ⟨gp,a*3+1,none⟩=some (.int .i64 pa2):=p1
 have p2':w3.cell? ⟨gp,m*3+2,none⟩=some (.int .i64 pb3):=p2
 simp only at HMK HCMA
 have HSE:=hide (show (List.range row.length).all (stemB c row lv pa2 pb3 tg)=(cellsTo c row lv P a b).all (mayR c row tg) from HCMA.out.symm)
 have HST1:=hide (HSTM.out w3 hbw3 pa2 pb3)
 rw [HSE.out,hstem] at HST1
 have HM2:=hide hm2
 clear hea heb p1 p2 hfa hlb1 hm2
 go_wp2_with fail
 refine (HST1.out).mono ?_
 rintro e w4 ⟨rfl,hb4⟩
 have hbw4:=hbw3.trans (hb4.mono hbw3.size)
 clear p1' p2'
 go_wp2_with fail
 refine (HFU.out w4 hbw4).mono ?_
 rintro e w4' ⟨rfl,rfl⟩
 go_wp2
 go_ret
 exact⟨rfl,hbw4⟩
theorem dcRelease_ok (c:Cfg) (row:List RC) (g n:Nat) (f:Nat→Nat→Bool) (rv pv:Value) (GR:Nat→Nat→Bool) (I:Nat→Nat) (Lg:NW) (B:Nat) (lv a b tg:Nat) (w:World) (hbox:PBox w g n f rv GR pv I Lg) (hrl:OwnL 163 2 ruleV w B rv c.rules) (hce:OwnL 181 20 (pcV c) w B pv row) (hn:n=c.n) (hf:f=tT c) (hR:CfgRight c) (hrow:RowGood c row) (hlv:lv<c.n) (htg:tg<c.n) (hgr:GR lv tg=true) (hne:∀ b,pv.ownBlock=some b→g≠b) (hab:a<b) (hbl:b≤(placesR c row lv).length) (hmask:(((placesR c row lv).drop a).take (b-a)).any (fun p=>p.b == 35)=false) (hstem:(cellsTo c row lv (placesR c row lv) a b).all (mayR c row tg)=true) (hfu:∀ w',Below w.heap.size w w'→Calls Tryz.prog 65 #[.pointer (some ⟨g,118,none⟩),.int .i64 tg] w' fun e w''=>e=.returned (.bool false)∧w'=w'') (R R1 R2:World→Prop) (vt:Int)
  (ht:∀ w1,OwnL 181 20 (pcV c) w1 B pv (markAll row (cellsTo c row lv (placesR c row lv) a b) ⟨4,tg,0⟩)→Only (fun k=>pv.ownBlock=some k) w w1→Calls Tryz.prog 59 #[.pointer (some ⟨g,124,none⟩),.int .i64 4,.int .i64 lv,.int .i64 tg] w1 fun e w'=>e=.returned (.tuple #[])∧R1 w')
  (hvt:∀ w1,R1 w1→Calls Tryz.prog 67 #[.pointer (some ⟨g,124,none⟩),.int .i64 tg] w1 fun e w'=>e=.returned (.int .i64 vt)∧R2 w')
  (hadd:∀ w1,R2 w1→Calls Tryz.prog 68 #[.pointer (some ⟨g,118,none⟩),.int .i64 tg,.agg #[.int .i64 lv,.int .i64 ((b:Int)-(a:Int)),.int .i64 vt]] w1 fun e w'=>e=.returned (.tuple #[])∧R w') :
  Calls Tryz.prog 27 #[.pointer (some ⟨g,0,none⟩),.int .i64 lv,.int .i64 a,.int .i64 b,.int .i64 tg] w fun e w'=>e=.returned (.int .i64 0)∧R w':=by
 have HT:=hide ht
 have HVT:=hide hvt
 have HADD:=hide hadd
 clear ht hvt hadd
 have hn6:n≤6:=by have:=(labels_of hR.labels).2.2.2.2.2.1;omega
 have hlv6:lv<6:=by omega
 have htg6:tg<6:=by omega
 have hli:(lv:Int)<6:=by omega
 have hti:(tg:Int)<6:=by omega
 have HPL:=hide (fun (w':World) (hb:Below w.heap.size w w')=>dcPlaces_any c row g n f rv pv GR I Lg B lv w' (hbox.below hb hbox.lt) (hrl.below hb) (hce.below hb) hn hf hR hrow hlv)
 have HBX:=hide hbox
 have hgl:=hbox.lt
 have i0:=hbox.is
 have a0:=hbox.at
 have r0:=hbox.not
 have HQ:=hide (has_any n f lv w)
 rw [okL_lt (show lv<n by omega)] at HQ
 have HQ2:=hide (fun w'=>has_any n f tg w')
 rw [okL_lt (show tg<n by omega)] at HQ2
 have HFU:=hide hfu
 clear hfu
 have HPC:=hide (fun (w':World)=>dcPiece_any a b (placesR c row lv).length w')
 have hpcB:pieceB a b (placesR c row lv).length=true:=by unfold pieceB;simp;omega
 rw [hpcB] at HPC
 have hPl:(placesR c row lv).length≤1200:=Nat.le_trans (placesR_ok c row lv (fun x hx=>(hrow.cells x hx).1.byte)).1 hrow.length
 have hrl12:=hrow.length
 have HHM:=hide (fun (g' cap':Nat) (w':World) (hp:PiecesAt w' g' (a*3) (((placesR c row lv).drop a).take (b-a)))=>vwHave_any (((placesR c row lv).drop a).take (b-a)) g' (a*3) cap' w' hp (by rw [List.length_take,List.length_drop];omega))
 have HSTM:=hide (fun (w':World) (hb:Below w.heap.size w w') (first last:Nat)=>rwStem_any c row g 74 n f pv B lv first last tg w' (hce.below hb) (hbox.below hb hbox.lt).row hn hf hR.labels (fun x hx=>(hrow.cells x hx).1) htg (by decide) (by omega))
 have HCMA:=hide (cells_meant_all c row lv (fun x hx=>(hrow.cells x hx).1.byte) hab hbl (mayR c row tg))
 have HMK:=hide (cells_meant c row lv (fun x hx=>(hrow.cells x hx).1.byte) hab hbl ⟨4,tg,0⟩)
 have HRW:=hide (fun (w':World) (hb:Below w.heap.size w w') (first last:Nat)=>rwRelease_any c row g 74 n f pv B lv tg first last w' (hce.below hb) (hbox.below hb hbox.lt).row hne hn hf hR.labels (fun x hx=>(hrow.cells x hx).1) htg (by decide) (by omega))
 have HPB:=hide (fun b' (h:pv.ownBlock=some b')=>(hce.lt h).2)
 generalize hP:placesR c row lv=P at *
 clear hbox hrl hce hn hf hR hrow hlv htg hpcB hne hP
 have hwd:IntKind.i64.wrap ((b:Int)-(a:Int))=(b:Int)-(a:Int):=by rw [IntKind.wrap_i64];omega
 go_enter Tryz.func27,Tryz.ntmps27
 go_wp2_with fail
 refine (HQ.out).mono ?_
 rintro e w1 ⟨rfl,hb1⟩
 have i1:=(HBX.out.below hb1 hgl).is
 have a1:=(HBX.out.below hb1 hgl).at
 have r1:=(HBX.out.below hb1 hgl).not
 clear i0 a0 r0
 go_wp2_with fail
 refine (HQ2.out w1).mono ?_
 rintro e w1' ⟨rfl,hb1'⟩
 clear i1 a1 r1
 replace hb1:=hb1.trans (hb1'.mono hb1.size)
 clear hb1'
 have g1:=(HBX.out.below hb1 hgl).gr lv tg hlv6 htg6
 rw [hgr] at g1
 go_wp2_with fail
 refine (HPL.out _ hb1).mono ?_
 rintro e w2 ⟨vl,rfl,hvl,hb2⟩
 have hbw:=hb1.trans (hb2.mono hb1.size)
 have hw1s:=hb1.size
 have HVL:=hide hvl
 obtain⟨ao,cap,hvv⟩:=hvl.shape
 subst hvv
 clear hb1 hb2 hvl g1
 go_wp2_with fail
 refine (HPC.out _).mono ?_
 rintro e w2' ⟨rfl,rfl⟩
 obtain⟨gp,cp,hvv,hgp0,hgp⟩:=HVL.out.form (by omega)
 simp only [Value.slice.injEq] at hvv
 obtain⟨rfl,_,rfl⟩:=hvv
 have hcapP:P.length≤cap:=by
  obtain⟨cap',cur,h1,_,_,h4,_⟩:=HVL.out.row (g:=gp) rfl
  simp only [Value.slice.injEq] at h1
  omega
 have hsl:=pslice (ao:=some ⟨gp,0,none⟩) (n:=P.length) (cap:=cap) (a:=a) (b:=b) (by omega) (by omega) (by omega) (by omega)
 have HLT:=hide (show ((P.drop a).take (b-a)).length=b-a by rw [List.length_take,List.length_drop];omega)
 have HM1:=hide (HHM.out gp (cap-a) w2 (pieces_at HVL.out))
 rw [HLT.out] at HM1
 rw [hmask] at HM1
 go_wp2_with fail
 refine (HM1.out).mono ?_
 rintro e w3 ⟨rfl,hb3⟩
 have hbw3:=hbw.trans (hb3.mono hbw.size)
 clear hsl
 have hea:P[a]?=some (P[a]'(by omega)):=List.getElem?_eq_getElem (by omega)
 have heb:P[b-1]?=some (P[b-1]'(by omega)):=List.getElem?_eq_getElem (by omega)
 have HV3:=hide (HVL.out.below hb3)
 have p1:=HV3.out.cell (show ∀ a,(placeV a).length=3 from fun _=>rfl) rfl hea (j:=1) (by omega)
 have p2:=HV3.out.cell (show ∀ a,(placeV a).length=3 from fun _=>rfl) rfl heb (j:=2) (by omega)
 have hfa:plAt P a=P[a]'(by omega):=plAt_lt (by omega)
 have hlb1:plAt P (b-1)=P[b-1]'(by omega):=plAt_lt (by omega)
 rw [hfa,hlb1] at HMK HCMA
 generalize (P[a]'(by omega))=pa at *
 generalize (P[b-1]'(by omega))=pb at *
 obtain⟨m,hm1,hm2⟩:∃ m:Nat,(b:Int)-1=(m:Int)∧b-1=m:=⟨b-1,by omega,rfl⟩
 have hmi:(m:Int)<(P.length:Int):=by omega
 have hai:(a:Int)<(P.length:Int):=by omega
 have hwm:IntKind.i64.wrap (m:Int)=(m:Int):=by rw [IntKind.wrap_i64];omega
 rw [hm2] at p2
 obtain⟨pa1,pa2,pa3⟩:=pa
 obtain⟨pb1,pb2,pb3⟩:=pb
 have p1':w3.cell? ⟨gp,a*3+1,none⟩=some (.int .i64 pa2):=p1
 have p2':w3.cell? ⟨gp,m*3+2,none⟩=some (.int .i64 pb3):=p2
 simp only at HMK HCMA
 have HSE:=hide (show (List.range row.length).all (stemB c row lv pa2 pb3 tg)=(cellsTo c row lv P a b).all (mayR c row tg) from HCMA.out.symm)
 have HST1:=hide (HSTM.out w3 hbw3 pa2 pb3)
 rw [HSE.out,hstem] at HST1
 have HM2:=hide hm2
 clear hea heb p1 p2 hfa hlb1 hm2
 go_wp2_with fail
 refine (HST1.out).mono ?_
 rintro e w4 ⟨rfl,hb4⟩
 have hbw4:=hbw3.trans (hb4.mono hbw3.size)
 clear p1' p2'
 have HRX:=hide (HRW.out w4 hbw4 pa2 pb3)
 rw [← HMK.out] at HRX
 generalize hML:markAll row (cellsTo c row lv P a b) ⟨4,tg,0⟩=row' at *
 have HML:=hide hML
 clear hML
 go_wp2_with fail
 refine (HFU.out w4 hbw4).mono ?_
 rintro e w4' ⟨rfl,rfl⟩
 go_wp2_with fail
 refine (HRX.out).mono ?_
 rintro e w5 ⟨rfl,hown5,honly5⟩
 have HO5:=hide hown5
 have HN5:=hide ((Only.of_below (F:=fun k=>pv.ownBlock=some k) hbw4).trans honly5 (fun k h=>Or.inl h))
 clear hown5 honly5
 go_wp2_with fail
 refine (HT.out _ (by first|exact HO5.out|(rw [HML.out];exact HO5.out)) HN5.out).mono ?_
 rintro e w6 ⟨rfl,hR6⟩
 have HR6:=hide hR6
 clear hR6
 go_wp2_with fail
 refine (HVT.out _ HR6.out).mono ?_
 rintro e w7 ⟨rfl,hR7⟩
 have HR7:=hide hR7
 clear hR7
 go_wp2_with fail
 refine (HADD.out _ HR7.out).mono ?_
 rintro e w8 ⟨rfl,hR8⟩
 go_wp2
 go_ret
 exact⟨rfl,hR8⟩
end Go.Proofs.YtgigkiocdiffjaaGreat
namespace Go.Proofs.YtgigkiocdiffjaaGreat
open Go.RowKit Veil
def logOf (c:Cfg) (acts:List RA) (d:Nat):List Rec:=logTo c acts d acts.length
def verOf (c:Cfg) (acts:List RA) (d:Nat):Nat:=verTo c acts d acts.length
def waitOf (c:Cfg) (acts:List RA) (d:Nat):List No:=waitsTo c acts d acts.length
section
variable {c:Cfg} {acts:List RA} {a:RA} {d k:Nat}
theorem verOf_le (c:Cfg) (acts:List RA) (d:Nat):verOf c acts d≤acts.length:=verTo_le _ _ _ _
theorem tellW_ok {k:Int} {b lo n:Nat} {W:Nat→List No} (h:∀ i,i<n→WOk (W i)) (hk:k≠0):∀ i,i<n→WOk (tellW c k b lo W i):=by
 intro i hi
 unfold tellW
 cases (c.le lo i && !((b:Int) == (i:Int)))
 ·exact h i hi
 ·exact addW_ok (h i hi) hk
end
structure DS where
 pd:Nat
 rd:Nat
 c:Cfg
 v:CfgV
 rows:List (RC × Value)
 acts:List RA
 rrv:Value
 rav:Value
 pv:PV
def DS.row (s:DS):List RC:=s.rows.map (·.1)
inductive DT where
 | ref (p:Part)
 | own (a:PT)
def dblk (s:DS):DT→Option Nat
 | .ref p=>blkOf' s.rd s.rrv s.rav s.rows p
 | .own a=>pblk s.c.n s.pd s.pv a
structure DocI (w0 w:World) (s:DS) (k:Nat):Prop where
 ref:RDocO w0 w s.rd s.c s.v s.rows s.acts s.rrv s.rav
 own:PDocO w0.heap.size w s.pd s.c s.row (ownC s.row) (logOf s.c s.acts) (verOf s.c s.acts) (waitOf s.c s.acts) s.pv
 right:CfgRight s.c
 cfg:CfgOk s.c
 good:RowOk s.c s.row k
 no35:∀ x,x ∈ s.row→x.b≠35
 acts:s.acts.length≤k∧∀ a,a ∈ s.acts→RAOk s.c a
 wok:∀ i,i<s.c.n→WOk (waitOf s.c s.acts i)
 lok:∀ i,i<s.c.n→(logOf s.c s.acts i).length≤8
 cross:∀ a p x,pblk s.c.n s.pd s.pv a=some x→blkOf' s.rd s.rrv s.rav s.rows p=some x→False
theorem RowOk.mono {c:Cfg} {row:List RC} {M N:Nat} (h:RowOk c row M) (hMN:M≤N):RowOk c row N:=⟨fun x hx=>⟨(h.cells x hx).1,Nat.le_trans (h.cells x hx).2 hMN⟩,h.quota⟩
section
variable {w0 w w':World} {s:DS} {k:Nat}
theorem DocI.low (h:DocI w0 w s k):∀ a x,dblk s a=some x→w0.heap.size≤x∧x<w.heap.size
 | .ref p,x,hx=>h.ref.parts.low p x hx
 | .own a,x,hx=>h.own.low a x hx
theorem DocI.n6 (h:DocI w0 w s k):s.c.n≤6:=(labels_of h.right.labels).2.2.2.2.2.1
theorem DocI.rowGood (h:DocI w0 w s k):RowGood s.c s.row:=⟨fun x hx=>⟨(h.good.cells x hx).1,h.no35 x hx⟩,h.good.length h.n6⟩
theorem DocI.mono (h:DocI w0 w s k) {k':Nat} (hk:k≤k'):DocI w0 w s k':=⟨h.ref,h.own,h.right,h.cfg,h.good.mono hk,h.no35,⟨Nat.le_trans h.acts.1 hk,h.acts.2⟩,h.wok,h.lok,h.cross⟩
theorem DocI.only (h:DocI w0 w s k) {F:Nat→Prop} (ho:Only F w w') (hF:∀ b,F b→w0.heap.size≤b) (hap:∀ a x,dblk s a=some x→¬ F x):DocI w0 w' s k:=
 ⟨h.ref.kept ho hF (fun p b hb=>hap (.ref p) b hb),h.own.only ho (fun a x hx=>hap (.own a) x hx),h.right,h.cfg,h.good,h.no35,h.acts,h.wok,h.lok,h.cross⟩
theorem DocI.below (h:DocI w0 w s k) (hb:Below w.heap.size w w'):DocI w0 w' s k:=h.only (F:=fun _=>False) (Only.of_below hb) (fun _ h=>h.elim) (fun _ _ _ h=>h)
theorem DocI.okL (h:DocI w0 w s k) (a:Int):okL s.c.n a=okL s.c.labels a:=by rw [(labels_of h.right.labels).2.2.2.2.1]
theorem DocI.box (h:DocI w0 w s k):PBox w s.pd s.c.n (tT s.c) s.pv.rv (grF s.c) s.pv.pv (ownC s.row) s.pv.nw:=h.own.box
theorem DocI.rules (h:DocI w0 w s k):OwnL 163 2 ruleV w w0.heap.size s.pv.rv s.c.rules:=h.own.rules
theorem DocI.cells (h:DocI w0 w s k):OwnL 181 20 (pcV s.c) w w0.heap.size s.pv.pv s.row:=h.own.cells
theorem DocI.vers (h:DocI w0 w s k) (hk:k≤4000000000000):∀ i,i<s.c.n→verOf s.c s.acts i≤4000000000000:=fun _ _=>Nat.le_trans (verOf_le _ _ _) (Nat.le_trans h.acts.1 hk)
end
def EditOk (w0 w:World) (s:DS) (k:Nat) (w':World):Prop:=∃ s',DocI w0 w' s' (k+1)∧s'.pd=s.pd∧s'.rd=s.rd∧Only (fun b=>∃ a,dblk s a=some b) w w'∧∀ a x,dblk s' a=some x→(∃ b,dblk s b=some x)∨w.heap.size≤x
theorem EditOk.same {w0 w w':World} {s:DS} {k:Nat} (h:DocI w0 w s k) (hb:Below w.heap.size w w'):EditOk w0 w s k w':=⟨s,(h.below hb).mono (Nat.le_succ k),rfl,rfl,Only.of_below hb,fun a _ hx=>Or.inl ⟨a,hx⟩⟩
theorem ownC_marked (p:Nat→Bool) (m:Mk) (row:List RC):ownC (markIf p m row row.length)=ownC row:=by
 funext l
 unfold ownC
 have key:(markIf p m row row.length).map (·.origin)=row.map (·.origin):=by
  apply List.ext_getElem?
  intro i
  rw [List.getElem?_map,List.getElem?_map,markIf_get]
  cases row[i]? with
  | none=>rfl
  | some x=>simp only [Option.map_some];cases (decide (i<row.length) && p i) <;> rfl
 have cnt:∀ r:List RC,(r.filter fun x=>x.origin == l).length=((r.map (·.origin)).filter fun o=>o == l).length:=by
  intro r
  induction r with
  | nil=>rfl
  | cons x r ih=>cases hx:(x.origin == l) <;> simp [hx,ih]
 rw [cnt,cnt,key]
theorem markIf_ok {c:Cfg} {row:List RC} {M:Nat} {m:Mk} (p:Nat→Bool) (h:RowOk c row M) (hm:MkOk c m):RowOk c (markIf p m row row.length) (M+1):=by
 refine⟨fun x hx=>?_,fun l=>by rw [ownC_marked];exact h.quota l⟩
 obtain⟨i,hi,he⟩:=List.getElem_of_mem hx
 have hg:(markIf p m row row.length)[i]?=some x:=by rw [← he];exact List.getElem?_eq_getElem hi
 rw [markIf_get] at hg
 cases hr:row[i]? with
 | none=>rw [hr] at hg;cases hg
 | some y=>
  rw [hr] at hg
  simp only [Option.map_some,Option.some.injEq] at hg
  have hy:=h.cells y (List.mem_of_getElem? hr)
  cases hc:(decide (i<row.length) && p i)
  ·rw [hc] at hg;simp only [cond_false] at hg;rw [← hg];exact⟨hy.1,Nat.le_trans hy.2 (Nat.le_succ M)⟩
  ·rw [hc] at hg;simp only [cond_true] at hg;rw [← hg]
   refine⟨⟨hy.1.byte,hy.1.origin,fun m' hm'=>?_⟩,?_⟩
   ·simp only [marked,List.mem_append,List.mem_singleton] at hm'
    rcases hm' with hm'|rfl
    ·exact hy.1.marks m' hm'
    ·exact hm
   ·simp only [marked,List.length_append,List.length_singleton];omega
theorem markIf_no35 {row:List RC} {m:Mk} (p:Nat→Bool) (h:∀ x,x ∈ row→x.b≠35):∀ x,x ∈ markIf p m row row.length→x.b≠35:=by
 intro x hx
 obtain⟨i,hi,he⟩:=List.getElem_of_mem hx
 have hg:(markIf p m row row.length)[i]?=some x:=by rw [← he];exact List.getElem?_eq_getElem hi
 rw [markIf_get] at hg
 cases hr:row[i]? with
 | none=>rw [hr] at hg;cases hg
 | some y=>
  rw [hr] at hg
  simp only [Option.map_some,Option.some.injEq] at hg
  have hy:=h y (List.mem_of_getElem? hr)
  cases hc:(decide (i<row.length) && p i)
  ·rw [hc] at hg;simp only [cond_false] at hg;rw [← hg];exact hy
  ·rw [hc] at hg;simp only [cond_true] at hg;rw [← hg];exact hy
end Go.Proofs.YtgigkiocdiffjaaGreat
namespace Go.Proofs.YtgigkiocdiffjaaGreat
open Go.RowKit Veil
theorem piece_yes {a b:Int} {m:Nat} (h:pieceB a b m=true):∃ x y:Nat,a=x∧b=y∧x<y∧y≤m:=by
 simp only [pieceB,Bool.and_eq_true,decide_eq_true_eq] at h
 exact⟨a.toNat,b.toNat,by omega,by omega,by omega,by omega⟩
theorem DocI.bytes {w0 w:World} {s:DS} {k:Nat} (h:DocI w0 w s k):∀ x,x ∈ s.row→x.b<256:=fun x hx=>(h.good.cells x hx).1.byte
theorem DocI.ne {w0 w:World} {s:DS} {k:Nat} (h:DocI w0 w s k):∀ b,s.pv.pv.ownBlock=some b→s.pd≠b:=fun b hb e=>h.own.ne (a:=.cells) (by simp) hb e.symm
end Go.Proofs.YtgigkiocdiffjaaGreat
namespace Go.Proofs.YtgigkiocdiffjaaGreat
open Go.RowKit Veil
theorem putC_own (row:List RC) (s:ByteArray) (lv m k:Nat):ownC (putC row (newC s lv m) k)=insF (ownC row) lv m:=by
 funext l
 have h1:ownC (putC row (newC s lv m) k) l=ownC row l+ownC (newC s lv m) l:=by
  have:ownC row l=ownC (row.take k) l+ownC (row.drop k) l:=by
   unfold ownC
   rw [← List.length_append,← List.filter_append,List.take_append_drop]
  rw [this]
  unfold ownC putC
  simp only [List.filter_append,List.length_append]
  omega
 have h2:ownC (newC s lv m) l=if l=lv then m else 0:=by
  clear h1
  induction m with
  | zero=>unfold ownC;rw [newC_zero];simp
  | succ m ih=>
   have:newC s lv (m+1)=newC s lv m++[⟨((bytes s).getD m 0).toNat,lv,[]⟩]:=by
    unfold newC newTo;rw [List.range_succ,List.map_append,List.map_append];rfl
   unfold ownC at *
   rw [this,List.filter_append,List.length_append,ih]
   by_cases hl:l=lv
   ·subst hl;simp
   ·have:(lv == l)=false:=by simp;omega
    simp [hl,this]
 rw [h1,h2]
 unfold insF
 by_cases hl:l=lv
 ·subst hl;simp
 ·simp [hl]
theorem newC_no35 {s:ByteArray} (lv:Nat) (h:textOkB s=true):∀ x,x ∈ newC s lv s.size→x.b≠35:=by
 intro x hx
 unfold newC newTo at hx
 simp only [List.map_map,List.mem_map,List.mem_range] at hx
 obtain⟨j,hj,rfl⟩:=hx
 unfold textOkB okTo at h
 simp only [Bool.and_eq_true,List.all_eq_true] at h
 have hm:(bytes s).getD j 0 ∈ (bytes s).take s.size:=by
  rw [List.take_of_length_le (by rw [bytes_length];exact Nat.le_refl _),List.getD,List.getElem?_eq_getElem (by rw [bytes_length];exact hj)]
  exact List.getElem_mem _
 have:=h.1.1 _ hm
 unfold okByte at this
 simp only [Bool.and_eq_true,Bool.not_eq_true',beq_eq_false_iff_ne] at this
 exact this.2
end Go.Proofs.YtgigkiocdiffjaaGreat
namespace Go.Proofs.YtgigkiocdiffjaaGreat
open Go.RowKit Veil
end Go.Proofs.YtgigkiocdiffjaaGreat
