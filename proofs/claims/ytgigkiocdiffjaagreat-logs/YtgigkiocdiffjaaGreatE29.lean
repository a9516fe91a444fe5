import Derived.Test.YtgigkiocdiffjaaGreatE28
import Derived.Test.YtgigkiocdiffjaaGreatE24
import Derived.Test.YtgigkiocdiffjaaGreatE23
import Derived.Deep.RegionHeld
set_option maxRecDepth 100000
set_option maxHeartbeats 16000000
namespace Go.Proofs.YtgigkiocdiffjaaGreat
open Go.RowKit Veil
theorem lent_cap {c:Cfg} {v:CfgV} {g1 g2 g3:Nat} (hn:CfgNil c v):c.rules.length≤(lentV c v g1 g2 g3).rc:=by
 cases hv:v.ra with
 | none=>rw [(hn.rules hv).1];exact Nat.zero_le _
 | some a=>simp [lentV,hv]
theorem asked_1 (c:Cfg) (v:CfgV) (a b cc d e0:Int) (s t:ByteArray) (w:World) (hok:CfgOk c) (hat:CfgAt w c v) (hnil:CfgNil c v) :
  Calls Tryz.prog 42 #[.agg (cfgCells c v),.agg #[.int .i64 1,.int .i64 a,.int .i64 b,.int .i64 cc,.int .i64 d,.int .i64 e0,.string s,.string t]] w fun e w'=>e=.returned (.bool true)∧Below w.heap.size w w':=by
 have HLENT:=hide (fun w' (hb:Below w.heap.size w w')=>lent_any c v w' hok (hat.below hb) hnil)
 have HREF:=hide (fun w' (hb:Below w.heap.size w w')=>rCheck_any c v w' hok (hat.below hb))
 have HWHO:=hide (fun g1 g2 g3 w' (hb:Below w.heap.size w w') hl=>whole_any c v g1 g2 g3 w' hok (hat.below hb) hl)
 have HSPO:=hide (fun g1 g2 g3 B w' hl hB h12 h23=>spoil_any c v g1 g2 g3 B w' hok hnil hl hB h12 h23)
 have HPRO:=hide (fun g1 g2 g3 w' (hl:LentAt w' c g1 g2 g3)=>vCheck_any c (lentV c v g1 g2 g3) w' hok (hl.cfg hnil) (lent_cap hnil))
 have HB0:=hide (below_box w (.cells (cfgCells c v) 31))
 have HX0:=hide (box_new w c v)
 have HB1:=hide (HB0.out.alloc (by simp) (.cells #[.int .i64 1,.int .i64 a,.int .i64 b,.int .i64 cc,.int .i64 d,.int .i64 e0,.string s,.string t] 57))
 have HX1:=hide (HX0.out.below (below_box _ (.cells #[.int .i64 1,.int .i64 a,.int .i64 b,.int .i64 cc,.int .i64 d,.int .i64 e0,.string s,.string t] 57)) (by simp))
 have HOP:=hide (heap_alloc2_new w (.cells (cfgCells c v) 31) (.cells #[.int .i64 1,.int .i64 a,.int .i64 b,.int .i64 cc,.int .i64 d,.int .i64 e0,.string s,.string t] 57))
 have HSZ:=hide (show ((w.alloc (.cells (cfgCells c v) 31)).alloc (.cells #[.int .i64 1,.int .i64 a,.int .i64 b,.int .i64 cc,.int .i64 d,.int .i64 e0,.string s,.string t] 57)).heap.size=w.heap.size+2 by simp)
 clear hok hat hnil HB0 HX0
 unfold cfgCells at *
 go_enter Tryz.func42,Tryz.ntmps42
 go_wp2_with fail
 refine (HLENT.out _ HB1.out).mono ?_
 rintro e w1 ⟨g1,g2,g3,rfl,hl,h1,h12,h23,hb1⟩
 have h1':w.heap.size≤g1:=by rw [HSZ.out] at h1;omega
 have HL:=hide hl
 have HPRO2:=hide (HPRO.out g1 g2 g3)
 have HWHO2:=hide (HWHO.out g1 g2 g3)
 have HSPO2:=hide (HSPO.out g1 g2 g3)
 have hbel1:=HB1.out.trans (hb1.mono (by rw [HSZ.out];omega))
 have HX2:=hide (HX1.out.below hb1 HX1.out.lt)
 have HOP2:Hid (w1.heap[w.heap.size+1]?=some (.cells #[.int .i64 1,.int .i64 a,.int .i64 b,.int .i64 cc,.int .i64 d,.int .i64 e0,.string s,.string t] 57)):=Below.row hb1 HOP.out (lt_of_row HOP.out)
 have k0:w1.cell? ⟨w.heap.size+1,0,none⟩=some (.int .i64 1):=by rw [cell_of_row _ _ _ _ _ _ HOP2.out];rfl
 have k2:w1.cell? ⟨w.heap.size+1,2,none⟩=some (.int .i64 b):=by rw [cell_of_row _ _ _ _ _ _ HOP2.out];rfl
 have k3:w1.cell? ⟨w.heap.size+1,3,none⟩=some (.int .i64 cc):=by rw [cell_of_row _ _ _ _ _ _ HOP2.out];rfl
 have hs1:=lt_of_row HOP2.out
 have l3:=hl.grants.lt
 have HL3:=hide (And.intro (show g1<w1.heap.size by omega) (And.intro (show g2<w1.heap.size by omega) l3))
 clear HLENT HPRO HWHO HSPO hl hb1 h1 HX1 HOP HB1 HSZ
 generalize lentV c v g1 g2 g3=v' at *
 have HB2:=hide (below_box w1 (.cells #[.int .i64 c.labels,.slice v'.ea c.edges.length v'.ec,.slice v'.ra c.rules.length v'.rc,.slice v'.ga c.grants.length v'.gc] 31))
 have HY2:=hide (box_new w1 c v')
 have HL2:=hide (HL.out.below HB2.out HL3.out.1 HL3.out.2.1 HL3.out.2.2)
 unfold cfgCells at *
 go_wp2_with fail
 refine (HPRO2.out _ HL2.out).mono ?_
 rintro e w3 ⟨x1,rfl,hc,hb3⟩
 have HC:=hide hc
 have hb13:=HB2.out.trans (hb3.mono HB2.out.size)
 have hbel3:=hbel1.trans (hb13.mono hbel1.size)
 have HX3:=hide (HX2.out.below hb13 HX2.out.lt)
 have HY3:=hide (HY2.out.below hb3 HY2.out.lt)
 have HOP3:Hid (w3.heap[w.heap.size+1]?=some (.cells #[.int .i64 1,.int .i64 a,.int .i64 b,.int .i64 cc,.int .i64 d,.int .i64 e0,.string s,.string t] 57)):=Below.row hb13 HOP2.out hs1
 have HL4:=hide (HL.out.below hb13 HL3.out.1 HL3.out.2.1 HL3.out.2.2)
 have hsz3:=hb13.size
 clear k0 k2 k3 hb3 hc HX2 HOP2 HY2 HL2 HPRO2 hb13 HB2 HL
 obtain⟨q0,q1,q2,q3⟩:=HX3.out.cells
 have k2:w3.cell? ⟨w.heap.size+1,2,none⟩=some (.int .i64 b):=by rw [cell_of_row _ _ _ _ _ _ HOP3.out];rfl
 have k3:w3.cell? ⟨w.heap.size+1,3,none⟩=some (.int .i64 cc):=by rw [cell_of_row _ _ _ _ _ _ HOP3.out];rfl
 go_wp2_with fail
 refine (HREF.out _ hbel3).mono ?_
 rintro e w4 ⟨y1,rfl,hc2,hb4⟩
 obtain rfl:=HC.out.same hc2
 have hbel4:=hbel3.trans (hb4.mono hbel3.size)
 have HX4:=hide (HX3.out.below hb4 HX3.out.lt)
 have HY4:=hide (HY3.out.below hb4 HY3.out.lt)
 have HL5:=hide (HL4.out.below hb4 (Nat.lt_of_lt_of_le HL3.out.1 hsz3) (Nat.lt_of_lt_of_le HL3.out.2.1 hsz3) (Nat.lt_of_lt_of_le HL3.out.2.2 hsz3))
 have hsz4:=hb4.size
 clear q0 q1 q2 q3 k2 k3 hc2 HC hb4 HX3 HY3 HL4 HREF
 obtain⟨q0,q1,q2,q3⟩:=HX4.out.cells
 obtain⟨p0,p1,p2,p3⟩:=HY4.out.cells
 go_wp2_with fail
 refine (HWHO2.out _ hbel4 HL5.out).mono ?_
 rintro e w5 ⟨rfl,hb5⟩
 have hbel5:=hbel4.trans (hb5.mono hbel4.size)
 have HY5:=hide (HY4.out.below hb5 HY4.out.lt)
 have hsz14:=Nat.le_trans hsz3 hsz4
 have HL6:=hide (HL5.out.below hb5 (Nat.lt_of_lt_of_le HL3.out.1 hsz14) (Nat.lt_of_lt_of_le HL3.out.2.1 hsz14) (Nat.lt_of_lt_of_le HL3.out.2.2 hsz14))
 clear q0 q1 q2 q3 p0 p1 p2 p3 hb5 HX4 HY4 HL5
 obtain⟨p0,p1,p2,p3⟩:=HY5.out.cells
 go_wp2_with fail
 refine (HSPO2.out w.heap.size _ HL6.out h1' h12 h23).mono ?_
 rintro e w6 ⟨rfl,hb6⟩
 have hbel6:=hbel5.trans hb6
 clear p0 p1 p2 p3 hb6
 go_wp2
 go_ret
 exact⟨rfl,hbel6⟩
theorem asked_2 (c:Cfg) (v:CfgV) (a b cc d e0:Int) (s t:ByteArray) (w:World) (hok:CfgOk c) (hat:CfgAt w c v) (hnil:CfgNil c v) :
  Calls Tryz.prog 42 #[.agg (cfgCells c v),.agg #[.int .i64 2,.int .i64 a,.int .i64 b,.int .i64 cc,.int .i64 d,.int .i64 e0,.string s,.string t]] w fun e w'=>e=.returned (.bool true)∧Below w.heap.size w w':=by
 have HLENT:=hide (fun w' (hb:Below w.heap.size w w')=>lent_any c v w' hok (hat.below hb) hnil)
 have HREF:=hide (fun w' (hb:Below w.heap.size w w')=>rLeq2_any c v b cc w' hok (hat.below hb))
 have HWHO:=hide (fun g1 g2 g3 w' (hb:Below w.heap.size w w') hl=>whole_any c v g1 g2 g3 w' hok (hat.below hb) hl)
 have HSPO:=hide (fun g1 g2 g3 B w' hl hB h12 h23=>spoil_any c v g1 g2 g3 B w' hok hnil hl hB h12 h23)
 have HPRO:=hide (fun g1 g2 g3 w' (hl:LentAt w' c g1 g2 g3)=>vLeq_any c (lentV c v g1 g2 g3) b cc w' hok (hl.cfg hnil) (lent_cap hnil))
 have HB0:=hide (below_box w (.cells (cfgCells c v) 31))
 have HX0:=hide (box_new w c v)
 have HB1:=hide (HB0.out.alloc (by simp) (.cells #[.int .i64 2,.int .i64 a,.int .i64 b,.int .i64 cc,.int .i64 d,.int .i64 e0,.string s,.string t] 57))
 have HX1:=hide (HX0.out.below (below_box _ (.cells #[.int .i64 2,.int .i64 a,.int .i64 b,.int .i64 cc,.int .i64 d,.int .i64 e0,.string s,.string t] 57)) (by simp))
 have HOP:=hide (heap_alloc2_new w (.cells (cfgCells c v) 31) (.cells #[.int .i64 2,.int .i64 a,.int .i64 b,.int .i64 cc,.int .i64 d,.int .i64 e0,.string s,.string t] 57))
 have HSZ:=hide (show ((w.alloc (.cells (cfgCells c v) 31)).alloc (.cells #[.int .i64 2,.int .i64 a,.int .i64 b,.int .i64 cc,.int .i64 d,.int .i64 e0,.string s,.string t] 57)).heap.size=w.heap.size+2 by simp)
 clear hok hat hnil HB0 HX0
 unfold cfgCells at *
 go_enter Tryz.func42,Tryz.ntmps42
 go_wp2_with fail
 refine (HLENT.out _ HB1.out).mono ?_
 rintro e w1 ⟨g1,g2,g3,rfl,hl,h1,h12,h23,hb1⟩
 have h1':w.heap.size≤g1:=by rw [HSZ.out] at h1;omega
 have HL:=hide hl
 have HPRO2:=hide (HPRO.out g1 g2 g3)
 have HWHO2:=hide (HWHO.out g1 g2 g3)
 have HSPO2:=hide (HSPO.out g1 g2 g3)
 have hbel1:=HB1.out.trans (hb1.mono (by rw [HSZ.out];omega))
 have HX2:=hide (HX1.out.below hb1 HX1.out.lt)
 have HOP2:Hid (w1.heap[w.heap.size+1]?=some (.cells #[.int .i64 2,.int .i64 a,.int .i64 b,.int .i64 cc,.int .i64 d,.int .i64 e0,.string s,.string t] 57)):=Below.row hb1 HOP.out (lt_of_row HOP.out)
 have k0:w1.cell? ⟨w.heap.size+1,0,none⟩=some (.int .i64 2):=by rw [cell_of_row _ _ _ _ _ _ HOP2.out];rfl
 have k2:w1.cell? ⟨w.heap.size+1,2,none⟩=some (.int .i64 b):=by rw [cell_of_row _ _ _ _ _ _ HOP2.out];rfl
 have k3:w1.cell? ⟨w.heap.size+1,3,none⟩=some (.int .i64 cc):=by rw [cell_of_row _ _ _ _ _ _ HOP2.out];rfl
 have hs1:=lt_of_row HOP2.out
 have l3:=hl.grants.lt
 have HL3:=hide (And.intro (show g1<w1.heap.size by omega) (And.intro (show g2<w1.heap.size by omega) l3))
 clear HLENT HPRO HWHO HSPO hl hb1 h1 HX1 HOP HB1 HSZ
 generalize lentV c v g1 g2 g3=v' at *
 have HB2:=hide (below_box w1 (.cells #[.int .i64 c.labels,.slice v'.ea c.edges.length v'.ec,.slice v'.ra c.rules.length v'.rc,.slice v'.ga c.grants.length v'.gc] 31))
 have HY2:=hide (box_new w1 c v')
 have HL2:=hide (HL.out.below HB2.out HL3.out.1 HL3.out.2.1 HL3.out.2.2)
 unfold cfgCells at *
 go_wp2_with fail
 refine (HPRO2.out _ HL2.out).mono ?_
 rintro e w3 ⟨x0,x1,rfl,hc,hb3⟩
 have HC:=hide hc
 have hb13:=HB2.out.trans (hb3.mono HB2.out.size)
 have hbel3:=hbel1.trans (hb13.mono hbel1.size)
 have HX3:=hide (HX2.out.below hb13 HX2.out.lt)
 have HY3:=hide (HY2.out.below hb3 HY2.out.lt)
 have HOP3:Hid (w3.heap[w.heap.size+1]?=some (.cells #[.int .i64 2,.int .i64 a,.int .i64 b,.int .i64 cc,.int .i64 d,.int .i64 e0,.string s,.string t] 57)):=Below.row hb13 HOP2.out hs1
 have HL4:=hide (HL.out.below hb13 HL3.out.1 HL3.out.2.1 HL3.out.2.2)
 have hsz3:=hb13.size
 clear k0 k2 k3 hb3 hc HX2 HOP2 HY2 HL2 HPRO2 hb13 HB2 HL
 obtain⟨q0,q1,q2,q3⟩:=HX3.out.cells
 have k2:w3.cell? ⟨w.heap.size+1,2,none⟩=some (.int .i64 b):=by rw [cell_of_row _ _ _ _ _ _ HOP3.out];rfl
 have k3:w3.cell? ⟨w.heap.size+1,3,none⟩=some (.int .i64 cc):=by rw [cell_of_row _ _ _ _ _ _ HOP3.out];rfl
 go_wp2_with fail
 refine (HREF.out _ hbel3).mono ?_
 rintro e w4 ⟨y0,y1,rfl,hc2,hb4⟩
 obtain⟨rfl,rfl⟩:=HC.out.same hc2
 have hbel4:=hbel3.trans (hb4.mono hbel3.size)
 have HX4:=hide (HX3.out.below hb4 HX3.out.lt)
 have HY4:=hide (HY3.out.below hb4 HY3.out.lt)
 have HL5:=hide (HL4.out.below hb4 (Nat.lt_of_lt_of_le HL3.out.1 hsz3) (Nat.lt_of_lt_of_le HL3.out.2.1 hsz3) (Nat.lt_of_lt_of_le HL3.out.2.2 hsz3))
 have hsz4:=hb4.size
 clear q0 q1 q2 q3 k2 k3 hc2 HC hb4 HX3 HY3 HL4 HREF
 obtain⟨q0,q1,q2,q3⟩:=HX4.out.cells
 obtain⟨p0,p1,p2,p3⟩:=HY4.out.cells
 go_wp2_with fail
 refine (HWHO2.out _ hbel4 HL5.out).mono ?_
 rintro e w5 ⟨rfl,hb5⟩
 have hbel5:=hbel4.trans (hb5.mono hbel4.size)
 have HY5:=hide (HY4.out.below hb5 HY4.out.lt)
 have hsz14:=Nat.le_trans hsz3 hsz4
 have HL6:=hide (HL5.out.below hb5 (Nat.lt_of_lt_of_le HL3.out.1 hsz14) (Nat.lt_of_lt_of_le HL3.out.2.1 hsz14) (Nat.lt_of_lt_of_le HL3.out.2.2 hsz14))
 clear q0 q1 q2 q3 p0 p1 p2 p3 hb5 HX4 HY4 HL5
 obtain⟨p0,p1,p2,p3⟩:=HY5.out.cells
 go_wp2_with fail
 refine (HSPO2.out w.heap.size _ HL6.out h1' h12 h23).mono ?_
 rintro e w6 ⟨rfl,hb6⟩
 have hbel6:=hbel5.trans hb6
 clear p0 p1 p2 p3 hb6
 go_wp2
 go_ret
 exact⟨rfl,hbel6⟩
theorem asked_3 (c:Cfg) (v:CfgV) (a b cc d e0:Int) (s t:ByteArray) (w:World) (hok:CfgOk c) (hat:CfgAt w c v) (hnil:CfgNil c v) :
  Calls Tryz.prog 42 #[.agg (cfgCells c v),.agg #[.int .i64 3,.int .i64 a,.int .i64 b,.int .i64 cc,.int .i64 d,.int .i64 e0,.string s,.string t]] w fun e w'=>e=.returned (.bool true)∧Below w.heap.size w w':=by
 have HLENT:=hide (fun w' (hb:Below w.heap.size w w')=>lent_any c v w' hok (hat.below hb) hnil)
 have HREF:=hide (fun w' (hb:Below w.heap.size w w')=>rJoin2_any c v b cc w' hok (hat.below hb))
 have HWHO:=hide (fun g1 g2 g3 w' (hb:Below w.heap.size w w') hl=>whole_any c v g1 g2 g3 w' hok (hat.below hb) hl)
 have HSPO:=hide (fun g1 g2 g3 B w' hl hB h12 h23=>spoil_any c v g1 g2 g3 B w' hok hnil hl hB h12 h23)
 have HPRO:=hide (fun g1 g2 g3 w' (hl:LentAt w' c g1 g2 g3)=>vJoin_any c (lentV c v g1 g2 g3) b cc w' hok (hl.cfg hnil) (lent_cap hnil))
 have HB0:=hide (below_box w (.cells (cfgCells c v) 31))
 have HX0:=hide (box_new w c v)
 have HB1:=hide (HB0.out.alloc (by simp) (.cells #[.int .i64 3,.int .i64 a,.int .i64 b,.int .i64 cc,.int .i64 d,.int .i64 e0,.string s,.string t] 57))
 have HX1:=hide (HX0.out.below (below_box _ (.cells #[.int .i64 3,.int .i64 a,.int .i64 b,.int .i64 cc,.int .i64 d,.int .i64 e0,.string s,.string t] 57)) (by simp))
 have HOP:=hide (heap_alloc2_new w (.cells (cfgCells c v) 31) (.cells #[.int .i64 3,.int .i64 a,.int .i64 b,.int .i64 cc,.int .i64 d,.int .i64 e0,.string s,.string t] 57))
 have HSZ:=hide (show ((w.alloc (.cells (cfgCells c v) 31)).alloc (.cells #[.int .i64 3,.int .i64 a,.int .i64 b,.int .i64 cc,.int .i64 d,.int .i64 e0,.string s,.string t] 57)).heap.size=w.heap.size+2 by simp)
 clear hok hat hnil HB0 HX0
 unfold cfgCells at *
 go_enter Tryz.func42,Tryz.ntmps42
 go_wp2_with fail
 refine (HLENT.out _ HB1.out).mono ?_
 rintro e w1 ⟨g1,g2,g3,rfl,hl,h1,h12,h23,hb1⟩
 have h1':w.heap.size≤g1:=by rw [HSZ.out] at h1;omega
 have HL:=hide hl
 have HPRO2:=hide (HPRO.out g1 g2 g3)
 have HWHO2:=hide (HWHO.out g1 g2 g3)
 have HSPO2:=hide (HSPO.out g1 g2 g3)
 have hbel1:=HB1.out.trans (hb1.mono (by rw [HSZ.out];omega))
 have HX2:=hide (HX1.out.below hb1 HX1.out.lt)
 have HOP2:Hid (w1.heap[w.heap.size+1]?=some (.cells #[.int .i64 3,.int .i64 a,.int .i64 b,.int .i64 cc,.int .i64 d,.int .i64 e0,.string s,.string t] 57)):=Below.row hb1 HOP.out (lt_of_row HOP.out)
 have k0:w1.cell? ⟨w.heap.size+1,0,none⟩=some (.int .i64 3):=by rw [cell_of_row _ _ _ _ _ _ HOP2.out];rfl
 have k2:w1.cell? ⟨w.heap.size+1,2,none⟩=some (.int .i64 b):=by rw [cell_of_row _ _ _ _ _ _ HOP2.out];rfl
 have k3:w1.cell? ⟨w.heap.size+1,3,none⟩=some (.int .i64 cc):=by rw [cell_of_row _ _ _ _ _ _ HOP2.out];rfl
 have hs1:=lt_of_row HOP2.out
 have l3:=hl.grants.lt
 have HL3:=hide (And.intro (show g1<w1.heap.size by omega) (And.intro (show g2<w1.heap.size by omega) l3))
 clear HLENT HPRO HWHO HSPO hl hb1 h1 HX1 HOP HB1 HSZ
 generalize lentV c v g1 g2 g3=v' at *
 have HB2:=hide (below_box w1 (.cells #[.int .i64 c.labels,.slice v'.ea c.edges.length v'.ec,.slice v'.ra c.rules.length v'.rc,.slice v'.ga c.grants.length v'.gc] 31))
 have HY2:=hide (box_new w1 c v')
 have HL2:=hide (HL.out.below HB2.out HL3.out.1 HL3.out.2.1 HL3.out.2.2)
 unfold cfgCells at *
 go_wp2_with fail
 refine (HPRO2.out _ HL2.out).mono ?_
 rintro e w3 ⟨x0,x1,rfl,hc,hb3⟩
 have HC:=hide hc
 have hb13:=HB2.out.trans (hb3.mono HB2.out.size)
 have hbel3:=hbel1.trans (hb13.mono hbel1.size)
 have HX3:=hide (HX2.out.below hb13 HX2.out.lt)
 have HY3:=hide (HY2.out.below hb3 HY2.out.lt)
 have HOP3:Hid (w3.heap[w.heap.size+1]?=some (.cells #[.int .i64 3,.int .i64 a,.int .i64 b,.int .i64 cc,.int .i64 d,.int .i64 e0,.string s,.string t] 57)):=Below.row hb13 HOP2.out hs1
 have HL4:=hide (HL.out.below hb13 HL3.out.1 HL3.out.2.1 HL3.out.2.2)
 have hsz3:=hb13.size
 clear k0 k2 k3 hb3 hc HX2 HOP2 HY2 HL2 HPRO2 hb13 HB2 HL
 obtain⟨q0,q1,q2,q3⟩:=HX3.out.cells
 have k2:w3.cell? ⟨w.heap.size+1,2,none⟩=some (.int .i64 b):=by rw [cell_of_row _ _ _ _ _ _ HOP3.out];rfl
 have k3:w3.cell? ⟨w.heap.size+1,3,none⟩=some (.int .i64 cc):=by rw [cell_of_row _ _ _ _ _ _ HOP3.out];rfl
 go_wp2_with fail
 refine (HREF.out _ hbel3).mono ?_
 rintro e w4 ⟨y0,y1,rfl,hc2,hb4⟩
 obtain⟨rfl,rfl⟩:=HC.out.same hc2
 have hbel4:=hbel3.trans (hb4.mono hbel3.size)
 have HX4:=hide (HX3.out.below hb4 HX3.out.lt)
 have HY4:=hide (HY3.out.below hb4 HY3.out.lt)
 have HL5:=hide (HL4.out.below hb4 (Nat.lt_of_lt_of_le HL3.out.1 hsz3) (Nat.lt_of_lt_of_le HL3.out.2.1 hsz3) (Nat.lt_of_lt_of_le HL3.out.2.2 hsz3))
 have hsz4:=hb4.size
 clear q0 q1 q2 q3 k2 k3 hc2 HC hb4 HX3 HY3 HL4 HREF
 obtain⟨q0,q1,q2,q3⟩:=HX4.out.cells
 obtain⟨p0,p1,p2,p3⟩:=HY4.out.cells
 go_wp2_with fail
 refine (HWHO2.out _ hbel4 HL5.out).mono ?_
 rintro e w5 ⟨rfl,hb5⟩
 have hbel5:=hbel4.trans (hb5.mono hbel4.size)
 have HY5:=hide (HY4.out.below hb5 HY4.out.lt)
 have hsz14:=Nat.le_trans hsz3 hsz4
 have HL6:=hide (HL5.out.below hb5 (Nat.lt_of_lt_of_le HL3.out.1 hsz14) (Nat.lt_of_lt_of_le HL3.out.2.1 hsz14) (Nat.lt_of_lt_of_le HL3.out.2.2 hsz14))
 clear q0 q1 q2 q3 p0 p1 p2 p3 hb5 HX4 HY4 HL5
 obtain⟨p0,p1,p2,p3⟩:=HY5.out.cells
 go_wp2_with fail
 refine (HSPO2.out w.heap.size _ HL6.out h1' h12 h23).mono ?_
 rintro e w6 ⟨rfl,hb6⟩
 have hbel6:=hbel5.trans hb6
 clear p0 p1 p2 p3 hb6
 go_wp2
 go_ret
 exact⟨rfl,hbel6⟩
theorem asked_4 (c:Cfg) (v:CfgV) (a b cc d e0:Int) (s t:ByteArray) (w:World) (hok:CfgOk c) (hat:CfgAt w c v) (hnil:CfgNil c v) :
  Calls Tryz.prog 42 #[.agg (cfgCells c v),.agg #[.int .i64 4,.int .i64 a,.int .i64 b,.int .i64 cc,.int .i64 d,.int .i64 e0,.string s,.string t]] w fun e w'=>e=.returned (.bool true)∧Below w.heap.size w w':=by
 have HLENT:=hide (fun w' (hb:Below w.heap.size w w')=>lent_any c v w' hok (hat.below hb) hnil)
 have HREF:=hide (fun w' (hb:Below w.heap.size w w')=>rMeet2_any c v b cc w' hok (hat.below hb))
 have HWHO:=hide (fun g1 g2 g3 w' (hb:Below w.heap.size w w') hl=>whole_any c v g1 g2 g3 w' hok (hat.below hb) hl)
 have HSPO:=hide (fun g1 g2 g3 B w' hl hB h12 h23=>spoil_any c v g1 g2 g3 B w' hok hnil hl hB h12 h23)
 have HPRO:=hide (fun g1 g2 g3 w' (hl:LentAt w' c g1 g2 g3)=>vMeet_any c (lentV c v g1 g2 g3) b cc w' hok (hl.cfg hnil) (lent_cap hnil))
 have HB0:=hide (below_box w (.cells (cfgCells c v) 31))
 have HX0:=hide (box_new w c v)
 have HB1:=hide (HB0.out.alloc (by simp) (.cells #[.int .i64 4,.int .i64 a,.int .i64 b,.int .i64 cc,.int .i64 d,.int .i64 e0,.string s,.string t] 57))
 have HX1:=hide (HX0.out.below (below_box _ (.cells #[.int .i64 4,.int .i64 a,.int .i64 b,.int .i64 cc,.int .i64 d,.int .i64 e0,.string s,.string t] 57)) (by simp))
 have HOP:=hide (heap_alloc2_new w (.cells (cfgCells c v) 31) (.cells #[.int .i64 4,.int .i64 a,.int .i64 b,.int .i64 cc,.int .i64 d,.int .i64 e0,.string s,.string t] 57))
 have HSZ:=hide (show ((w.alloc (.cells (cfgCells c v) 31)).alloc (.cells #[.int .i64 4,.int .i64 a,.int .i64 b,.int .i64 cc,.int .i64 d,.int .i64 e0,.string s,.string t] 57)).heap.size=w.heap.size+2 by simp)
 clear hok hat hnil HB0 HX0
 unfold cfgCells at *
 go_enter Tryz.func42,Tryz.ntmps42
 go_wp2_with fail
 refine (HLENT.out _ HB1.out).mono ?_
 rintro e w1 ⟨g1,g2,g3,rfl,hl,h1,h12,h23,hb1⟩
 have h1':w.heap.size≤g1:=by rw [HSZ.out] at h1;omega
 have HL:=hide hl
 have HPRO2:=hide (HPRO.out g1 g2 g3)
 have HWHO2:=hide (HWHO.out g1 g2 g3)
 have HSPO2:=hide (HSPO.out g1 g2 g3)
 have hbel1:=HB1.out.trans (hb1.mono (by rw [HSZ.out];omega))
 have HX2:=hide (HX1.out.below hb1 HX1.out.lt)
 have HOP2:Hid (w1.heap[w.heap.size+1]?=some (.cells #[.int .i64 4,.int .i64 a,.int .i64 b,.int .i64 cc,.int .i64 d,.int .i64 e0,.string s,.string t] 57)):=Below.row hb1 HOP.out (lt_of_row HOP.out)
 have k0:w1.cell? ⟨w.heap.size+1,0,none⟩=some (.int .i64 4):=by rw [cell_of_row _ _ _ _ _ _ HOP2.out];rfl
 have k2:w1.cell? ⟨w.heap.size+1,2,none⟩=some (.int .i64 b):=by rw [cell_of_row _ _ _ _ _ _ HOP2.out];rfl
 have k3:w1.cell? ⟨w.heap.size+1,3,none⟩=some (.int .i64 cc):=by rw [cell_of_row _ _ _ _ _ _ HOP2.out];rfl
 have hs1:=lt_of_row HOP2.out
 have l3:=hl.grants.lt
 have HL3:=hide (And.intro (show g1<w1.heap.size by omega) (And.intro (show g2<w1.heap.size by omega) l3))
 clear HLENT HPRO HWHO HSPO hl hb1 h1 HX1 HOP HB1 HSZ
 generalize lentV c v g1 g2 g3=v' at *
 have HB2:=hide (below_box w1 (.cells #[.int .i64 c.labels,.slice v'.ea c.edges.length v'.ec,.slice v'.ra c.rules.length v'.rc,.slice v'.ga c.grants.length v'.gc] 31))
 have HY2:=hide (box_new w1 c v')
 have HL2:=hide (HL.out.below HB2.out HL3.out.1 HL3.out.2.1 HL3.out.2.2)
 unfold cfgCells at *
 go_wp2_with fail
 refine (HPRO2.out _ HL2.out).mono ?_
 rintro e w3 ⟨x0,x1,rfl,hc,hb3⟩
 have HC:=hide hc
 have hb13:=HB2.out.trans (hb3.mono HB2.out.size)
 have hbel3:=hbel1.trans (hb13.mono hbel1.size)
 have HX3:=hide (HX2.out.below hb13 HX2.out.lt)
 have HY3:=hide (HY2.out.below hb3 HY2.out.lt)
 have HOP3:Hid (w3.heap[w.heap.size+1]?=some (.cells #[.int .i64 4,.int .i64 a,.int .i64 b,.int .i64 cc,.int .i64 d,.int .i64 e0,.string s,.string t] 57)):=Below.row hb13 HOP2.out hs1
 have HL4:=hide (HL.out.below hb13 HL3.out.1 HL3.out.2.1 HL3.out.2.2)
 have hsz3:=hb13.size
 clear k0 k2 k3 hb3 hc HX2 HOP2 HY2 HL2 HPRO2 hb13 HB2 HL
 obtain⟨q0,q1,q2,q3⟩:=HX3.out.cells
 have k2:w3.cell? ⟨w.heap.size+1,2,none⟩=some (.int .i64 b):=by rw [cell_of_row _ _ _ _ _ _ HOP3.out];rfl
 have k3:w3.cell? ⟨w.heap.size+1,3,none⟩=some (.int .i64 cc):=by rw [cell_of_row _ _ _ _ _ _ HOP3.out];rfl
 go_wp2_with fail
 refine (HREF.out _ hbel3).mono ?_
 rintro e w4 ⟨y0,y1,rfl,hc2,hb4⟩
 obtain⟨rfl,rfl⟩:=HC.out.same hc2
 have hbel4:=hbel3.trans (hb4.mono hbel3.size)
 have HX4:=hide (HX3.out.below hb4 HX3.out.lt)
 have HY4:=hide (HY3.out.below hb4 HY3.out.lt)
 have HL5:=hide (HL4.out.below hb4 (Nat.lt_of_lt_of_le HL3.out.1 hsz3) (Nat.lt_of_lt_of_le HL3.out.2.1 hsz3) (Nat.lt_of_lt_of_le HL3.out.2.2 hsz3))
 have hsz4:=hb4.size
 clear q0 q1 q2 q3 k2 k3 hc2 HC hb4 HX3 HY3 HL4 HREF
 obtain⟨q0,q1,q2,q3⟩:=HX4.out.cells
 obtain⟨p0,p1,p2,p3⟩:=HY4.out.cells
 go_wp2_with fail
 refine (HWHO2.out _ hbel4 HL5.out).mono ?_
 rintro e w5 ⟨rfl,hb5⟩
 have hbel5:=hbel4.trans (hb5.mono hbel4.size)
 have HY5:=hide (HY4.out.below hb5 HY4.out.lt)
 have hsz14:=Nat.le_trans hsz3 hsz4
 have HL6:=hide (HL5.out.below hb5 (Nat.lt_of_lt_of_le HL3.out.1 hsz14) (Nat.lt_of_lt_of_le HL3.out.2.1 hsz14) (Nat.lt_of_lt_of_le HL3.out.2.2 hsz14))
 clear q0 q1 q2 q3 p0 p1 p2 p3 hb5 HX4 HY4 HL5
 obtain⟨p0,p1,p2,p3⟩:=HY5.out.cells
 go_wp2_with fail
 refine (HSPO2.out w.heap.size _ HL6.out h1' h12 h23).mono ?_
 rintro e w6 ⟨rfl,hb6⟩
 have hbel6:=hbel5.trans hb6
 clear p0 p1 p2 p3 hb6
 go_wp2
 go_ret
 exact⟨rfl,hbel6⟩
end Go.Proofs.YtgigkiocdiffjaaGreat
namespace Go.Proofs.YtgigkiocdiffjaaGreat
open Go.RowKit Veil
theorem vOpen_bad (c:Cfg) (v:CfgV) (k:Int) (w:World) (hok:CfgOk c) (hat:CfgAt w c v) (hcap:c.rules.length≤v.rc) (hk:CheckIs c k) (hne:k≠0) :
  Calls Tryz.prog 20 #[.agg (cfgCells c v)] w fun e w'=>e=.returned (.tuple #[.pointer none,.int .i64 k])∧Below w.heap.size w w':=by
 have HQ:=hide (fun w' (hb:Below w.heap.size w w')=>cCheck_any c v w' hok (hat.below hb) hcap)
 have HB0:=hide (below_box w (.cells (cfgCells c v) 31))
 have HK:=hide hk
 have hcode:(k == 0)=false:=by simpa using hne
 clear hok hat hcap hk
 unfold cfgCells at *
 go_enter Tryz.func20,Tryz.ntmps20
 go_wp2_with fail
 refine (HQ.out _ HB0.out).mono ?_
 rintro e w1 ⟨code,L,f,rfl,⟨hc,_⟩,hb1⟩
 obtain rfl:=hc.same HK.out
 have hbel1:=HB0.out.trans (hb1.mono (by simp))
 have HN:=hide (Go.heap_alloc_new w1 (.cells (ordC 0 noF) 105))
 have i2:rowIs (w1.alloc (.cells (ordC 0 noF) 105)) w1.heap.size 37:=⟨_,_,HN.out,ordC_size _ _⟩
 have hbel3:Below w.heap.size w ((w1.alloc (.cells (ordC 0 noF) 105)).setRow w1.heap.size (ordC L f)):=below_setRow (hbel1.alloc hbel1.size _) hbel1.size _
 clear hb1 HB0 hc HK HQ
 go_wp2_with (refine wpList_alloc_ord rfl rfl ?_)
 go_ret2
 exact⟨rfl,hbel3⟩
end Go.Proofs.YtgigkiocdiffjaaGreat
namespace Go.Proofs.YtgigkiocdiffjaaGreat
open Go.RowKit Veil
theorem opened_bad (gw:Nat) (c:Cfg) (v:CfgV) (k:Int) (w:World) (hok:CfgOk c) (hat:CfgAt w c v) (hnil:CfgNil c v) (hk:CheckIs c k) (hne:k≠0) :
  Calls Tryz.prog 41 #[.pointer (some ⟨gw,0,none⟩),.agg (cfgCells c v)] w fun e w'=>e=.returned (.bool true)∧Below w.heap.size w w':=by
 have HLENT:=hide (fun w' (hb:Below w.heap.size w w')=>lent_any c v w' hok (hat.below hb) hnil)
 have HREF:=hide (fun w' (hb:Below w.heap.size w w')=>rCheck_any c v w' hok (hat.below hb))
 have HWHO:=hide (fun g1 g2 g3 w' (hb:Below w.heap.size w w') hl=>whole_any c v g1 g2 g3 w' hok (hat.below hb) hl)
 have HSPO:=hide (fun g1 g2 g3 B w' hl hB h12 h23=>spoil_any c v g1 g2 g3 B w' hok hnil hl hB h12 h23)
 have HPRO:=hide (fun g1 g2 g3 w' (hl:LentAt w' c g1 g2 g3)=>vOpen_bad c (lentV c v g1 g2 g3) k w' hok (hl.cfg hnil) (lent_cap hnil) hk hne)
 have HK:=hide hk
 have hkn:(k == 0)=false:=by simpa using hne
 have hkn2:¬ k=0:=hne
 have HB0:=hide (below_box w (.cells (cfgCells c v) 31))
 have HX0:=hide (box_new w c v)
 have HB1:=hide HB0.out
 have HX1:=hide HX0.out
 have HSZ:=hide (show (w.alloc (.cells (cfgCells c v) 31)).heap.size=w.heap.size+1 by simp)
 clear hok hat hnil HB0 HX0 hk hne
 unfold cfgCells at *
 go_enter Tryz.func41,Tryz.ntmps41
 go_wp2_with fail
 refine (HLENT.out _ HB1.out).mono ?_
 rintro e w1 ⟨g1,g2,g3,rfl,hl,h1,h12,h23,hb1⟩
 have h1':w.heap.size≤g1:=by rw [HSZ.out] at h1;omega
 have HL:=hide hl
 have HPRO2:=hide (HPRO.out g1 g2 g3)
 have HWHO2:=hide (HWHO.out g1 g2 g3)
 have HSPO2:=hide (HSPO.out g1 g2 g3)
 have hbel1:=HB1.out.trans (hb1.mono (by rw [HSZ.out];omega))
 have HX2:=hide (HX1.out.below hb1 HX1.out.lt)
 have l3:=hl.grants.lt
 have HL3:=hide (And.intro (show g1<w1.heap.size by omega) (And.intro (show g2<w1.heap.size by omega) l3))
 clear HLENT HPRO HWHO HSPO hl hb1 h1 HX1 HB1 HSZ
 generalize lentV c v g1 g2 g3=v' at *
 have HB2:=hide (below_box w1 (.cells #[.int .i64 c.labels,.slice v'.ea c.edges.length v'.ec,.slice v'.ra c.rules.length v'.rc,.slice v'.ga c.grants.length v'.gc] 31))
 have HY2:=hide (box_new w1 c v')
 have HL2:=hide (HL.out.below HB2.out HL3.out.1 HL3.out.2.1 HL3.out.2.2)
 unfold cfgCells at *
 go_wp2_with fail
 refine (HPRO2.out _ HL2.out).mono ?_
 rintro e w3 ⟨rfl,hb3⟩
 have hb13:=HB2.out.trans (hb3.mono HB2.out.size)
 have hbel3:=hbel1.trans (hb13.mono hbel1.size)
 have HX3:=hide (HX2.out.below hb13 HX2.out.lt)
 have HY3:=hide (HY2.out.below hb3 HY2.out.lt)
 have HL4:=hide (HL.out.below hb13 HL3.out.1 HL3.out.2.1 HL3.out.2.2)
 have hsz3:=hb13.size
 clear hb3 HX2 HY2 HL2 HPRO2 hb13 HB2 HL
 obtain⟨q0,q1,q2,q3⟩:=HX3.out.cells
 go_wp2_with fail
 refine (HREF.out _ hbel3).mono ?_
 rintro e w4 ⟨y1,rfl,hc2,hb4⟩
 obtain rfl:=HK.out.same hc2
 have hbel4:=hbel3.trans (hb4.mono hbel3.size)
 have HX4:=hide (HX3.out.below hb4 HX3.out.lt)
 have HY4:=hide (HY3.out.below hb4 HY3.out.lt)
 have HL5:=hide (HL4.out.below hb4 (Nat.lt_of_lt_of_le HL3.out.1 hsz3) (Nat.lt_of_lt_of_le HL3.out.2.1 hsz3) (Nat.lt_of_lt_of_le HL3.out.2.2 hsz3))
 have hsz4:=hb4.size
 clear q0 q1 q2 q3 hc2 hb4 HX3 HY3 HL4 HREF
 obtain⟨q0,q1,q2,q3⟩:=HX4.out.cells
 obtain⟨p0,p1,p2,p3⟩:=HY4.out.cells
 go_wp2_with fail
 refine (HWHO2.out _ hbel4 HL5.out).mono ?_
 rintro e w5 ⟨rfl,hb5⟩
 have hbel5:=hbel4.trans (hb5.mono hbel4.size)
 have HY5:=hide (HY4.out.below hb5 HY4.out.lt)
 have hsz14:=Nat.le_trans hsz3 hsz4
 have HL6:=hide (HL5.out.below hb5 (Nat.lt_of_lt_of_le HL3.out.1 hsz14) (Nat.lt_of_lt_of_le HL3.out.2.1 hsz14) (Nat.lt_of_lt_of_le HL3.out.2.2 hsz14))
 clear q0 q1 q2 q3 p0 p1 p2 p3 hb5 HX4 HY4 HL5
 obtain⟨p0,p1,p2,p3⟩:=HY5.out.cells
 go_wp2_with fail
 refine (HSPO2.out w.heap.size _ HL6.out h1' h12 h23).mono ?_
 rintro e w6 ⟨rfl,hb6⟩
 have hbel6:=hbel5.trans hb6
 clear p0 p1 p2 p3 hb6
 go_wp2
 go_ret
 exact⟨rfl,hbel6⟩
end Go.Proofs.YtgigkiocdiffjaaGreat
namespace Go.Proofs.YtgigkiocdiffjaaGreat
open Go.RowKit Veil
theorem asked_any (c:Cfg) (v:CfgV) (o:OpR) (w:World) (h1:1≤o.kind) (h4:o.kind≤4) (hok:CfgOk c) (hat:CfgAt w c v) (hnil:CfgNil c v) :
  Calls Tryz.prog 42 #[.agg (cfgCells c v),.agg o.cells] w fun e w'=>e=.returned (.bool true)∧Below w.heap.size w w':=by
 obtain⟨kind,a,b,cc,d,e0,s,t⟩:=o
 simp only at h1 h4
 have:kind=1∨kind=2∨kind=3∨kind=4:=by omega
 rcases this with rfl|rfl|rfl|rfl
 ·exact asked_1 c v a b cc d e0 s t w hok hat hnil
 ·exact asked_2 c v a b cc d e0 s t w hok hat hnil
 ·exact asked_3 c v a b cc d e0 s t w hok hat hnil
 ·exact asked_4 c v a b cc d e0 s t w hok hat hnil
def pickI (c n:Int):Int:=(if c<0 then -(c+1) else c).tmod n
theorem pickI_lt {c:Int} {n:Nat} (hc:-9223372036854775808≤c) (hn:0<n):∃ i:Nat,pickI c n=i∧i<n:=by
 have h0:0≤(if c<0 then -(c+1) else c):=by split <;> omega
 have h1:0≤pickI c n:=Int.tmod_nonneg _ h0
 have h2:pickI c n<n:=Int.tmod_lt_of_pos _ (by omega)
 obtain⟨i,hi⟩:=Int.eq_ofNat_of_zero_le h1
 exact⟨i,hi,by omega⟩
theorem pick_any (c:Int) (n:Nat) (w:World) (hc:-9223372036854775808≤c∧c≤9223372036854775807) (hn:0<n) (hn2:n<2 ^ 57) :
  Calls Tryz.prog 40 #[.int .i64 c,.int .i64 n] w fun e w'=>e=.returned (.int .i64 (pickI c n))∧w=w':=by
 have hn3:(0:Int)<(n:Int):=by omega
 have hn4:((n:Int) == 0)=false:=by simp;omega
 have hn5:((n:Int) == -1)=false:=by simp
 by_cases h:c<0
 ·have HP:=hide (show pickI c n=(-(c+1)).tmod n by unfold pickI;rw [if_pos h])
  go_enter Tryz.func40,Tryz.ntmps40
  go_wp2
  go_ret
  exact⟨by rw [HP.out,Int.neg_tmod];rfl,rfl⟩
 ·have HP:=hide (show pickI c n=c.tmod n by unfold pickI;rw [if_neg h])
  go_enter Tryz.func40,Tryz.ntmps40
  go_wp2
  go_ret
  exact⟨by rw [HP.out,Int.tmod_eq_emod_of_nonneg (by omega)];rfl,rfl⟩
def CfgsAt (w:World) (co:Option Addr) (n:Nat) (cs:Nat→Cfg) (vs:Nat→CfgV):Prop:=
 n=0∨∃ b off,co=some ⟨b,off,none⟩∧b<w.heap.size∧∀ i,i<n→(∀ j,j<4→w.cell? ⟨b,off+i*4+j,none⟩=(cfgCells (cs i) (vs i))[j]?)∧CfgOk (cs i)∧CfgAt w (cs i) (vs i)∧CfgNil (cs i) (vs i)
theorem step_asked (co:Option Addr) (cn cap:Nat) (cs:Nat→Cfg) (vs:Nat→CfgV) (o:OpR) (g:Nat) (w0 w:World) (h1:1≤o.kind) (h4:o.kind≤4) (ha:-9223372036854775808≤o.a∧o.a≤9223372036854775807) (hcn:cn<2 ^ 57)
  (hb:Below w0.heap.size w0 w) (p0:w.cell? ⟨g,0,none⟩=some (.slice co cn cap)) (hgl:g<w.heap.size) (hcs:CfgsAt w0 co cn cs vs) :
  Calls Tryz.prog 18 #[.pointer (some ⟨g,0,none⟩),.agg o.cells] w fun e w''=>e=.returned (.bool true)∧Below w.heap.size w w'':=by
 have HK:=hide (And.intro h1 h4)
 have HASK:=hide (fun (c:Cfg) (v:CfgV) (w':World)=>asked_any c v o w' h1 h4)
 obtain⟨kind,a,b,cc,d,e0,s,t⟩:=o
 simp only at h1 h4 ha HK
 unfold OpR.cells at *
 have t5:(kind == 5)=false:=by simp;omega
 have t6:(kind == 6)=false:=by simp;omega
 have t66:kind≤6:=by omega
 have hbx:=below_box w (.cells #[.int .i64 kind,.int .i64 a,.int .i64 b,.int .i64 cc,.int .i64 d,.int .i64 e0,.string s,.string t] 57)
 by_cases hz:cn=0
 ·have hz':((cn:Int) == 0)=true:=by simp;omega
  clear hcs HASK
  go_enter Tryz.func18,Tryz.ntmps18
  go_wp2
  go_ret
  exact⟨rfl,hbx⟩
 ·have hz':((cn:Int) == 0)=false:=by simp;omega
  obtain⟨i,hi,hil⟩:=pickI_lt (c:=a) (n:=cn) ha.1 (by omega)
  have HPICK:Hid (∀ w',Calls Tryz.prog 40 #[.int .i64 a,.int .i64 cn] w' fun e w''=>e=.returned (.int .i64 i)∧w'=w''):=fun w'=>by rw [← hi];exact pick_any a cn w' ha (by omega) hcn
  rcases hcs with h|⟨b1,off,rfl,hbl,hall⟩
  ·exact absurd h hz
  obtain⟨hc,hok,hat,hnil⟩:=hall i hil
  have HASK2:=hide (fun w' (hb':Below w0.heap.size w0 w')=>HASK.out (cs i) (vs i) w' hok (hat.below hb') hnil)
  have d0:w.cell? ⟨b1,off+i*4,none⟩=some (.int .i64 (cs i).labels):=(hb.cell (p:=⟨b1,off+i*4,none⟩) hbl).trans (hc 0 (by omega))
  have d1:w.cell? ⟨b1,off+i*4+1,none⟩=some (.slice (vs i).ea (cs i).edges.length (vs i).ec):=(hb.cell (p:=⟨b1,off+i*4+1,none⟩) hbl).trans (hc 1 (by omega))
  have d2:w.cell? ⟨b1,off+i*4+2,none⟩=some (.slice (vs i).ra (cs i).rules.length (vs i).rc):=(hb.cell (p:=⟨b1,off+i*4+2,none⟩) hbl).trans (hc 2 (by omega))
  have d3:w.cell? ⟨b1,off+i*4+3,none⟩=some (.slice (vs i).ga (cs i).grants.length (vs i).gc):=(hb.cell (p:=⟨b1,off+i*4+3,none⟩) hbl).trans (hc 3 (by omega))
  have hili:(i:Int)<(cn:Int):=by omega
  have hb1w:b1<w.heap.size:=Nat.lt_of_lt_of_le hbl hb.size
  unfold cfgCells at *
  generalize cs i=C at *
  generalize vs i=V at *
  clear hc hok hat hnil hall HASK hi hz
  go_enter Tryz.func18,Tryz.ntmps18
  go_wp2_with fail
  first|(go_region_held (fun w'=>w'.cell? ⟨g,0,none⟩=some (.slice (some ⟨b1,off,none⟩) cn cap)∧w'.cell? ⟨w.heap.size,1,none⟩=some (.int .i64 a)∧w'.cell? ⟨b1,off+i*4,none⟩=some (.int .i64 C.labels)∧w'.cell? ⟨b1,off+i*4+1,none⟩=some (.slice V.ea C.edges.length V.ec)∧w'.cell? ⟨b1,off+i*4+2,none⟩=some (.slice V.ra C.rules.length V.rc)∧w'.cell? ⟨b1,off+i*4+3,none⟩=some (.slice V.ga C.grants.length V.gc)) (go_keep) (first|(go_at_call 40;refine (HPICK.out _).mono ?_;rintro e w1 ⟨rfl,rfl⟩)))|fail "no"
  all_goals
   go_wp2_with fail
   have hbelA:Below w.heap.size w ((((w.alloc (.cells #[.int .i64 kind,.int .i64 a,.int .i64 b,.int .i64 cc,.int .i64 d,.int .i64 e0,.string s,.string t] 57)).alloc (.cells #[.int .i64 C.labels,.slice V.ea C.edges.length V.ec,.slice V.ra C.rules.length V.rc,.slice V.ga C.grants.length V.gc] 31))).drew):=(hbx.alloc hbx.size _).drew
   refine (HASK2.out _ (hb.trans (hbelA.mono hb.size))).mono ?_
   rintro e w9 ⟨rfl,hb9⟩
   have hbel9:=hbelA.trans (hb9.mono hbelA.size)
   clear hb9 hbelA
   go_wp2
   go_ret
   exact⟨rfl,hbel9⟩
theorem CfgsAt.below {w w':World} {co:Option Addr} {n:Nat} {cs:Nat→Cfg} {vs:Nat→CfgV} (h:CfgsAt w co n cs vs) (hb:Below w.heap.size w w'):CfgsAt w' co n cs vs:=by
 rcases h with h|⟨b,off,h1,h2,h3⟩
 ·exact Or.inl h
 ·exact Or.inr ⟨b,off,h1,Nat.lt_of_lt_of_le h2 hb.size,fun i hi=>⟨fun j hj=>(hb.cell (p:=⟨b,off+i*4+j,none⟩) h2).trans ((h3 i hi).1 j hj),(h3 i hi).2.1,(h3 i hi).2.2.1.below hb,(h3 i hi).2.2.2⟩⟩
end Go.Proofs.YtgigkiocdiffjaaGreat
namespace Go.Proofs.YtgigkiocdiffjaaGreat
open Go.RowKit Veil
theorem step_open (co:Option Addr) (cn cap:Nat) (cs:Nat→Cfg) (vs:Nat→CfgV) (o:OpR) (g:Nat) (w0 w:World) (C:World→Prop) (hk6:o.kind=6) (ha:-9223372036854775808≤o.a∧o.a≤9223372036854775807) (hcn:cn<2 ^ 57)
  (hb:Below w0.heap.size w0 w) (hgl:g<w.heap.size) (p0:w.cell? ⟨g,0,none⟩=some (.slice co cn cap)) (hcs:CfgsAt w0 co cn cs vs)
  (hN:∀ w',Below w.heap.size w w'→cn=0→C w') (hO:∀ i w',i<cn→Below w.heap.size w w'→CfgOk (cs i)→CfgAt w' (cs i) (vs i)→CfgNil (cs i) (vs i)→Calls Tryz.prog 41 #[.pointer (some ⟨g,0,none⟩),.agg (cfgCells (cs i) (vs i))] w' fun e w''=>e=.returned (.bool true)∧C w'') :
  Calls Tryz.prog 18 #[.pointer (some ⟨g,0,none⟩),.agg o.cells] w fun e w''=>e=.returned (.bool true)∧C w'':=by
 have HNN:=hide hN
 have HOO:=hide hO
 clear hN hO
 obtain⟨kind,a,b,cc,d,e0,s,t⟩:=o
 simp only at hk6 ha
 subst hk6
 unfold OpR.cells at *
 have hbx:=below_box w (.cells #[.int .i64 6,.int .i64 a,.int .i64 b,.int .i64 cc,.int .i64 d,.int .i64 e0,.string s,.string t] 57)
 by_cases hz:cn=0
 ·have hz':((cn:Int) == 0)=true:=by simp;omega
  clear hcs HOO
  go_enter Tryz.func18,Tryz.ntmps18
  go_wp2
  go_ret
  exact⟨rfl,HNN.out _ hbx hz⟩
 ·have hz':((cn:Int) == 0)=false:=by simp;omega
  obtain⟨i,hi,hil⟩:=pickI_lt (c:=a) (n:=cn) ha.1 (by omega)
  have HPICK:Hid (∀ w',Calls Tryz.prog 40 #[.int .i64 a,.int .i64 cn] w' fun e w''=>e=.returned (.int .i64 i)∧w'=w''):=fun w'=>by rw [← hi];exact pick_any a cn w' ha (by omega) hcn
  rcases hcs with h|⟨b1,off,rfl,hbl,hall⟩
  ·exact absurd h hz
  obtain⟨hc,hok,hat,hnil⟩:=hall i hil
  have HASK2:=hide (fun w' (hb':Below w.heap.size w w')=>HOO.out i w' hil hb' hok (hat.below (hb.trans (hb'.mono hb.size))) hnil)
  have d0:w.cell? ⟨b1,off+i*4,none⟩=some (.int .i64 (cs i).labels):=(hb.cell (p:=⟨b1,off+i*4,none⟩) hbl).trans (hc 0 (by omega))
  have d1:w.cell? ⟨b1,off+i*4+1,none⟩=some (.slice (vs i).ea (cs i).edges.length (vs i).ec):=(hb.cell (p:=⟨b1,off+i*4+1,none⟩) hbl).trans (hc 1 (by omega))
  have d2:w.cell? ⟨b1,off+i*4+2,none⟩=some (.slice (vs i).ra (cs i).rules.length (vs i).rc):=(hb.cell (p:=⟨b1,off+i*4+2,none⟩) hbl).trans (hc 2 (by omega))
  have d3:w.cell? ⟨b1,off+i*4+3,none⟩=some (.slice (vs i).ga (cs i).grants.length (vs i).gc):=(hb.cell (p:=⟨b1,off+i*4+3,none⟩) hbl).trans (hc 3 (by omega))
  have hili:(i:Int)<(cn:Int):=by omega
  have hb1w:b1<w.heap.size:=Nat.lt_of_lt_of_le hbl hb.size
  unfold cfgCells at *
  generalize cs i=C at *
  generalize vs i=V at *
  clear hc hok hat hnil hall HOO hi hz
  go_enter Tryz.func18,Tryz.ntmps18
  go_wp2_with fail
  first|(go_region_held (fun w'=>w'.cell? ⟨g,0,none⟩=some (.slice (some ⟨b1,off,none⟩) cn cap)∧w'.cell? ⟨w.heap.size,1,none⟩=some (.int .i64 a)∧w'.cell? ⟨b1,off+i*4,none⟩=some (.int .i64 C.labels)∧w'.cell? ⟨b1,off+i*4+1,none⟩=some (.slice V.ea C.edges.length V.ec)∧w'.cell? ⟨b1,off+i*4+2,none⟩=some (.slice V.ra C.rules.length V.rc)∧w'.cell? ⟨b1,off+i*4+3,none⟩=some (.slice V.ga C.grants.length V.gc)) (go_keep) (first|(go_at_call 40;refine (HPICK.out _).mono ?_;rintro e w1 ⟨rfl,rfl⟩)))|fail "no"
  all_goals
   go_wp2_with fail
   have hbelA:Below w.heap.size w ((((w.alloc (.cells #[.int .i64 6,.int .i64 a,.int .i64 b,.int .i64 cc,.int .i64 d,.int .i64 e0,.string s,.string t] 57)).alloc (.cells #[.int .i64 C.labels,.slice V.ea C.edges.length V.ec,.slice V.ra C.rules.length V.rc,.slice V.ga C.grants.length V.gc] 31))).drew):=(hbx.alloc hbx.size _).drew
   refine (HASK2.out _ hbelA).mono ?_
   rintro e w9 ⟨rfl,hb9⟩
   have HC9:=hide hb9
   clear hb9 hbelA
   go_wp2
   go_ret
   exact⟨rfl,HC9.out⟩
end Go.Proofs.YtgigkiocdiffjaaGreat
