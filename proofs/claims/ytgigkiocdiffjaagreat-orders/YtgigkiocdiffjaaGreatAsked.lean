/- veillaw.asked. -/
import Derived.Test.YtgigkiocdiffjaaGreatVeil3
import Derived.Test.YtgigkiocdiffjaaGreatSpoil
import Derived.Test.YtgigkiocdiffjaaGreatPlays2
namespace Go.Proofs.YtgigkiocdiffjaaGreat
open Go.RowKit Veil
theorem lent_cap {c : Cfg} {v : CfgV} {g1 g2 g3 : Nat} (hn : CfgNil c v) : c.rules.length ≤ (lentV c v g1 g2 g3).rc := by
  cases hv : v.ra with
  | none => rw [(hn.rules hv).1]; exact Nat.zero_le _
  | some a => simp [lentV, hv]
set_option maxRecDepth 100000 in
set_option maxHeartbeats 4000000 in
theorem asked_1 (c : Cfg) (v : CfgV) (a b cc d e0 : Int) (s t : ByteArray) (w : World) (hok : CfgOk c) (hat : CfgAt w c v) (hnil : CfgNil c v) :
    Calls Tryz.prog 42 #[.agg (cfgCells c v), .agg #[.int .i64 1, .int .i64 a, .int .i64 b, .int .i64 cc, .int .i64 d, .int .i64 e0, .string s, .string t]] w fun e w' => e = .returned (.bool true) ∧ Below w.heap.size w w' := by
  have HLENT := hide (fun w' (hb : Below w.heap.size w w') => lent_any c v w' hok (hat.below hb) hnil)
  have HREF := hide (fun w' (hb : Below w.heap.size w w') => rCheck_any c v w' hok (hat.below hb))
  have HWHO := hide (fun g1 g2 g3 w' (hb : Below w.heap.size w w') hl => whole_any c v g1 g2 g3 w' hok (hat.below hb) hl)
  have HSPO := hide (fun g1 g2 g3 B w' hl hB h12 h23 => spoil_any c v g1 g2 g3 B w' hok hnil hl hB h12 h23)
  have HPRO := hide (fun g1 g2 g3 w' (hl : LentAt w' c g1 g2 g3) => vCheck_any c (lentV c v g1 g2 g3) w' hok (hl.cfg hnil) (lent_cap hnil))
  have HB0 := hide (below_box w (.cells (cfgCells c v) 31))
  have HX0 := hide (box_new w c v)
  have HB1 := hide (HB0.out.alloc (by simp) (.cells #[.int .i64 1, .int .i64 a, .int .i64 b, .int .i64 cc, .int .i64 d, .int .i64 e0, .string s, .string t] 57))
  have HX1 := hide (HX0.out.below (below_box _ (.cells #[.int .i64 1, .int .i64 a, .int .i64 b, .int .i64 cc, .int .i64 d, .int .i64 e0, .string s, .string t] 57)) (by simp))
  have HOP := hide (heap_alloc2_new w (.cells (cfgCells c v) 31) (.cells #[.int .i64 1, .int .i64 a, .int .i64 b, .int .i64 cc, .int .i64 d, .int .i64 e0, .string s, .string t] 57))
  have HSZ := hide (show ((w.alloc (.cells (cfgCells c v) 31)).alloc (.cells #[.int .i64 1, .int .i64 a, .int .i64 b, .int .i64 cc, .int .i64 d, .int .i64 e0, .string s, .string t] 57)).heap.size = w.heap.size + 2 by simp)
  clear hok hat hnil HB0 HX0
  unfold cfgCells at *
  go_enter Tryz.func42, Tryz.ntmps42
  go_wp2_with fail
  refine (HLENT.out _ HB1.out).mono ?_
  rintro e w1 ⟨g1, g2, g3, rfl, hl, h1, h12, h23, hb1⟩
  have h1' : w.heap.size ≤ g1 := by rw [HSZ.out] at h1; omega
  have HL := hide hl
  have HPRO2 := hide (HPRO.out g1 g2 g3)
  have HWHO2 := hide (HWHO.out g1 g2 g3)
  have HSPO2 := hide (HSPO.out g1 g2 g3)
  have hbel1 := HB1.out.trans (hb1.mono (by rw [HSZ.out]; omega))
  have HX2 := hide (HX1.out.below hb1 HX1.out.lt)
  have HOP2 : Hid (w1.heap[w.heap.size + 1]? = some (.cells #[.int .i64 1, .int .i64 a, .int .i64 b, .int .i64 cc, .int .i64 d, .int .i64 e0, .string s, .string t] 57)) := Below.row hb1 HOP.out (lt_of_row HOP.out)
  have k0 : w1.cell? ⟨w.heap.size + 1, 0, none⟩ = some (.int .i64 1) := by rw [cell_of_row _ _ _ _ _ _ HOP2.out]; rfl
  have k2 : w1.cell? ⟨w.heap.size + 1, 2, none⟩ = some (.int .i64 b) := by rw [cell_of_row _ _ _ _ _ _ HOP2.out]; rfl
  have k3 : w1.cell? ⟨w.heap.size + 1, 3, none⟩ = some (.int .i64 cc) := by rw [cell_of_row _ _ _ _ _ _ HOP2.out]; rfl
  have hs1 := lt_of_row HOP2.out
  have l3 := hl.grants.lt
  have HL3 := hide (And.intro (show g1 < w1.heap.size by omega) (And.intro (show g2 < w1.heap.size by omega) l3))
  clear HLENT HPRO HWHO HSPO hl hb1 h1 HX1 HOP HB1 HSZ
  generalize lentV c v g1 g2 g3 = v' at *
  have HB2 := hide (below_box w1 (.cells #[.int .i64 c.labels, .slice v'.ea c.edges.length v'.ec, .slice v'.ra c.rules.length v'.rc, .slice v'.ga c.grants.length v'.gc] 31))
  have HY2 := hide (box_new w1 c v')
  have HL2 := hide (HL.out.below HB2.out HL3.out.1 HL3.out.2.1 HL3.out.2.2)
  unfold cfgCells at *
  go_wp2_with fail
  refine (HPRO2.out _ HL2.out).mono ?_
  rintro e w3 ⟨x1, rfl, hc, hb3⟩
  have HC := hide hc
  have hb13 := HB2.out.trans (hb3.mono HB2.out.size)
  have hbel3 := hbel1.trans (hb13.mono hbel1.size)
  have HX3 := hide (HX2.out.below hb13 HX2.out.lt)
  have HY3 := hide (HY2.out.below hb3 HY2.out.lt)
  have HOP3 : Hid (w3.heap[w.heap.size + 1]? = some (.cells #[.int .i64 1, .int .i64 a, .int .i64 b, .int .i64 cc, .int .i64 d, .int .i64 e0, .string s, .string t] 57)) := Below.row hb13 HOP2.out hs1
  have HL4 := hide (HL.out.below hb13 HL3.out.1 HL3.out.2.1 HL3.out.2.2)
  have hsz3 := hb13.size
  clear k0 k2 k3 hb3 hc HX2 HOP2 HY2 HL2 HPRO2 hb13 HB2 HL
  obtain ⟨q0, q1, q2, q3⟩ := HX3.out.cells
  have k2 : w3.cell? ⟨w.heap.size + 1, 2, none⟩ = some (.int .i64 b) := by rw [cell_of_row _ _ _ _ _ _ HOP3.out]; rfl
  have k3 : w3.cell? ⟨w.heap.size + 1, 3, none⟩ = some (.int .i64 cc) := by rw [cell_of_row _ _ _ _ _ _ HOP3.out]; rfl
  go_wp2_with fail
  refine (HREF.out _ hbel3).mono ?_
  rintro e w4 ⟨y1, rfl, hc2, hb4⟩
  obtain rfl := HC.out.same hc2
  have hbel4 := hbel3.trans (hb4.mono hbel3.size)
  have HX4 := hide (HX3.out.below hb4 HX3.out.lt)
  have HY4 := hide (HY3.out.below hb4 HY3.out.lt)
  have HL5 := hide (HL4.out.below hb4 (Nat.lt_of_lt_of_le HL3.out.1 hsz3) (Nat.lt_of_lt_of_le HL3.out.2.1 hsz3) (Nat.lt_of_lt_of_le HL3.out.2.2 hsz3))
  have hsz4 := hb4.size
  clear q0 q1 q2 q3 k2 k3 hc2 HC hb4 HX3 HY3 HL4 HREF
  obtain ⟨q0, q1, q2, q3⟩ := HX4.out.cells
  obtain ⟨p0, p1, p2, p3⟩ := HY4.out.cells
  go_wp2_with fail
  refine (HWHO2.out _ hbel4 HL5.out).mono ?_
  rintro e w5 ⟨rfl, hb5⟩
  have hbel5 := hbel4.trans (hb5.mono hbel4.size)
  have HY5 := hide (HY4.out.below hb5 HY4.out.lt)
  have hsz14 := Nat.le_trans hsz3 hsz4
  have HL6 := hide (HL5.out.below hb5 (Nat.lt_of_lt_of_le HL3.out.1 hsz14) (Nat.lt_of_lt_of_le HL3.out.2.1 hsz14) (Nat.lt_of_lt_of_le HL3.out.2.2 hsz14))
  clear q0 q1 q2 q3 p0 p1 p2 p3 hb5 HX4 HY4 HL5
  obtain ⟨p0, p1, p2, p3⟩ := HY5.out.cells
  go_wp2_with fail
  refine (HSPO2.out w.heap.size _ HL6.out h1' h12 h23).mono ?_
  rintro e w6 ⟨rfl, hb6⟩
  have hbel6 := hbel5.trans hb6
  clear p0 p1 p2 p3 hb6
  go_wp2
  go_ret
  exact ⟨rfl, hbel6⟩
set_option maxRecDepth 100000 in
set_option maxHeartbeats 4000000 in
theorem asked_2 (c : Cfg) (v : CfgV) (a b cc d e0 : Int) (s t : ByteArray) (w : World) (hok : CfgOk c) (hat : CfgAt w c v) (hnil : CfgNil c v) :
    Calls Tryz.prog 42 #[.agg (cfgCells c v), .agg #[.int .i64 2, .int .i64 a, .int .i64 b, .int .i64 cc, .int .i64 d, .int .i64 e0, .string s, .string t]] w fun e w' => e = .returned (.bool true) ∧ Below w.heap.size w w' := by
  have HLENT := hide (fun w' (hb : Below w.heap.size w w') => lent_any c v w' hok (hat.below hb) hnil)
  have HREF := hide (fun w' (hb : Below w.heap.size w w') => rLeq2_any c v b cc w' hok (hat.below hb))
  have HWHO := hide (fun g1 g2 g3 w' (hb : Below w.heap.size w w') hl => whole_any c v g1 g2 g3 w' hok (hat.below hb) hl)
  have HSPO := hide (fun g1 g2 g3 B w' hl hB h12 h23 => spoil_any c v g1 g2 g3 B w' hok hnil hl hB h12 h23)
  have HPRO := hide (fun g1 g2 g3 w' (hl : LentAt w' c g1 g2 g3) => vLeq_any c (lentV c v g1 g2 g3) b cc w' hok (hl.cfg hnil) (lent_cap hnil))
  have HB0 := hide (below_box w (.cells (cfgCells c v) 31))
  have HX0 := hide (box_new w c v)
  have HB1 := hide (HB0.out.alloc (by simp) (.cells #[.int .i64 2, .int .i64 a, .int .i64 b, .int .i64 cc, .int .i64 d, .int .i64 e0, .string s, .string t] 57))
  have HX1 := hide (HX0.out.below (below_box _ (.cells #[.int .i64 2, .int .i64 a, .int .i64 b, .int .i64 cc, .int .i64 d, .int .i64 e0, .string s, .string t] 57)) (by simp))
  have HOP := hide (heap_alloc2_new w (.cells (cfgCells c v) 31) (.cells #[.int .i64 2, .int .i64 a, .int .i64 b, .int .i64 cc, .int .i64 d, .int .i64 e0, .string s, .string t] 57))
  have HSZ := hide (show ((w.alloc (.cells (cfgCells c v) 31)).alloc (.cells #[.int .i64 2, .int .i64 a, .int .i64 b, .int .i64 cc, .int .i64 d, .int .i64 e0, .string s, .string t] 57)).heap.size = w.heap.size + 2 by simp)
  clear hok hat hnil HB0 HX0
  unfold cfgCells at *
  go_enter Tryz.func42, Tryz.ntmps42
  go_wp2_with fail
  refine (HLENT.out _ HB1.out).mono ?_
  rintro e w1 ⟨g1, g2, g3, rfl, hl, h1, h12, h23, hb1⟩
  have h1' : w.heap.size ≤ g1 := by rw [HSZ.out] at h1; omega
  have HL := hide hl
  have HPRO2 := hide (HPRO.out g1 g2 g3)
  have HWHO2 := hide (HWHO.out g1 g2 g3)
  have HSPO2 := hide (HSPO.out g1 g2 g3)
  have hbel1 := HB1.out.trans (hb1.mono (by rw [HSZ.out]; omega))
  have HX2 := hide (HX1.out.below hb1 HX1.out.lt)
  have HOP2 : Hid (w1.heap[w.heap.size + 1]? = some (.cells #[.int .i64 2, .int .i64 a, .int .i64 b, .int .i64 cc, .int .i64 d, .int .i64 e0, .string s, .string t] 57)) := Below.row hb1 HOP.out (lt_of_row HOP.out)
  have k0 : w1.cell? ⟨w.heap.size + 1, 0, none⟩ = some (.int .i64 2) := by rw [cell_of_row _ _ _ _ _ _ HOP2.out]; rfl
  have k2 : w1.cell? ⟨w.heap.size + 1, 2, none⟩ = some (.int .i64 b) := by rw [cell_of_row _ _ _ _ _ _ HOP2.out]; rfl
  have k3 : w1.cell? ⟨w.heap.size + 1, 3, none⟩ = some (.int .i64 cc) := by rw [cell_of_row _ _ _ _ _ _ HOP2.out]; rfl
  have hs1 := lt_of_row HOP2.out
  have l3 := hl.grants.lt
  have HL3 := hide (And.intro (show g1 < w1.heap.size by omega) (And.intro (show g2 < w1.heap.size by omega) l3))
  clear HLENT HPRO HWHO HSPO hl hb1 h1 HX1 HOP HB1 HSZ
  generalize lentV c v g1 g2 g3 = v' at *
  have HB2 := hide (below_box w1 (.cells #[.int .i64 c.labels, .slice v'.ea c.edges.length v'.ec, .slice v'.ra c.rules.length v'.rc, .slice v'.ga c.grants.length v'.gc] 31))
  have HY2 := hide (box_new w1 c v')
  have HL2 := hide (HL.out.below HB2.out HL3.out.1 HL3.out.2.1 HL3.out.2.2)
  unfold cfgCells at *
  go_wp2_with fail
  refine (HPRO2.out _ HL2.out).mono ?_
  rintro e w3 ⟨x0, x1, rfl, hc, hb3⟩
  have HC := hide hc
  have hb13 := HB2.out.trans (hb3.mono HB2.out.size)
  have hbel3 := hbel1.trans (hb13.mono hbel1.size)
  have HX3 := hide (HX2.out.below hb13 HX2.out.lt)
  have HY3 := hide (HY2.out.below hb3 HY2.out.lt)
  have HOP3 : Hid (w3.heap[w.heap.size + 1]? = some (.cells #[.int .i64 2, .int .i64 a, .int .i64 b, .int .i64 cc, .int .i64 d, .int .i64 e0, .string s, .string t] 57)) := Below.row hb13 HOP2.out hs1
  have HL4 := hide (HL.out.below hb13 HL3.out.1 HL3.out.2.1 HL3.out.2.2)
  have hsz3 := hb13.size
  clear k0 k2 k3 hb3 hc HX2 HOP2 HY2 HL2 HPRO2 hb13 HB2 HL
  obtain ⟨q0, q1, q2, q3⟩ := HX3.out.cells
  have k2 : w3.cell? ⟨w.heap.size + 1, 2, none⟩ = some (.int .i64 b) := by rw [cell_of_row _ _ _ _ _ _ HOP3.out]; rfl
  have k3 : w3.cell? ⟨w.heap.size + 1, 3, none⟩ = some (.int .i64 cc) := by rw [cell_of_row _ _ _ _ _ _ HOP3.out]; rfl
  go_wp2_with fail
  refine (HREF.out _ hbel3).mono ?_
  rintro e w4 ⟨y0, y1, rfl, hc2, hb4⟩
  obtain ⟨rfl, rfl⟩ := HC.out.same hc2
  have hbel4 := hbel3.trans (hb4.mono hbel3.size)
  have HX4 := hide (HX3.out.below hb4 HX3.out.lt)
  have HY4 := hide (HY3.out.below hb4 HY3.out.lt)
  have HL5 := hide (HL4.out.below hb4 (Nat.lt_of_lt_of_le HL3.out.1 hsz3) (Nat.lt_of_lt_of_le HL3.out.2.1 hsz3) (Nat.lt_of_lt_of_le HL3.out.2.2 hsz3))
  have hsz4 := hb4.size
  clear q0 q1 q2 q3 k2 k3 hc2 HC hb4 HX3 HY3 HL4 HREF
  obtain ⟨q0, q1, q2, q3⟩ := HX4.out.cells
  obtain ⟨p0, p1, p2, p3⟩ := HY4.out.cells
  go_wp2_with fail
  refine (HWHO2.out _ hbel4 HL5.out).mono ?_
  rintro e w5 ⟨rfl, hb5⟩
  have hbel5 := hbel4.trans (hb5.mono hbel4.size)
  have HY5 := hide (HY4.out.below hb5 HY4.out.lt)
  have hsz14 := Nat.le_trans hsz3 hsz4
  have HL6 := hide (HL5.out.below hb5 (Nat.lt_of_lt_of_le HL3.out.1 hsz14) (Nat.lt_of_lt_of_le HL3.out.2.1 hsz14) (Nat.lt_of_lt_of_le HL3.out.2.2 hsz14))
  clear q0 q1 q2 q3 p0 p1 p2 p3 hb5 HX4 HY4 HL5
  obtain ⟨p0, p1, p2, p3⟩ := HY5.out.cells
  go_wp2_with fail
  refine (HSPO2.out w.heap.size _ HL6.out h1' h12 h23).mono ?_
  rintro e w6 ⟨rfl, hb6⟩
  have hbel6 := hbel5.trans hb6
  clear p0 p1 p2 p3 hb6
  go_wp2
  go_ret
  exact ⟨rfl, hbel6⟩
set_option maxRecDepth 100000 in
set_option maxHeartbeats 4000000 in
theorem asked_3 (c : Cfg) (v : CfgV) (a b cc d e0 : Int) (s t : ByteArray) (w : World) (hok : CfgOk c) (hat : CfgAt w c v) (hnil : CfgNil c v) :
    Calls Tryz.prog 42 #[.agg (cfgCells c v), .agg #[.int .i64 3, .int .i64 a, .int .i64 b, .int .i64 cc, .int .i64 d, .int .i64 e0, .string s, .string t]] w fun e w' => e = .returned (.bool true) ∧ Below w.heap.size w w' := by
  have HLENT := hide (fun w' (hb : Below w.heap.size w w') => lent_any c v w' hok (hat.below hb) hnil)
  have HREF := hide (fun w' (hb : Below w.heap.size w w') => rJoin2_any c v b cc w' hok (hat.below hb))
  have HWHO := hide (fun g1 g2 g3 w' (hb : Below w.heap.size w w') hl => whole_any c v g1 g2 g3 w' hok (hat.below hb) hl)
  have HSPO := hide (fun g1 g2 g3 B w' hl hB h12 h23 => spoil_any c v g1 g2 g3 B w' hok hnil hl hB h12 h23)
  have HPRO := hide (fun g1 g2 g3 w' (hl : LentAt w' c g1 g2 g3) => vJoin_any c (lentV c v g1 g2 g3) b cc w' hok (hl.cfg hnil) (lent_cap hnil))
  have HB0 := hide (below_box w (.cells (cfgCells c v) 31))
  have HX0 := hide (box_new w c v)
  have HB1 := hide (HB0.out.alloc (by simp) (.cells #[.int .i64 3, .int .i64 a, .int .i64 b, .int .i64 cc, .int .i64 d, .int .i64 e0, .string s, .string t] 57))
  have HX1 := hide (HX0.out.below (below_box _ (.cells #[.int .i64 3, .int .i64 a, .int .i64 b, .int .i64 cc, .int .i64 d, .int .i64 e0, .string s, .string t] 57)) (by simp))
  have HOP := hide (heap_alloc2_new w (.cells (cfgCells c v) 31) (.cells #[.int .i64 3, .int .i64 a, .int .i64 b, .int .i64 cc, .int .i64 d, .int .i64 e0, .string s, .string t] 57))
  have HSZ := hide (show ((w.alloc (.cells (cfgCells c v) 31)).alloc (.cells #[.int .i64 3, .int .i64 a, .int .i64 b, .int .i64 cc, .int .i64 d, .int .i64 e0, .string s, .string t] 57)).heap.size = w.heap.size + 2 by simp)
  clear hok hat hnil HB0 HX0
  unfold cfgCells at *
  go_enter Tryz.func42, Tryz.ntmps42
  go_wp2_with fail
  refine (HLENT.out _ HB1.out).mono ?_
  rintro e w1 ⟨g1, g2, g3, rfl, hl, h1, h12, h23, hb1⟩
  have h1' : w.heap.size ≤ g1 := by rw [HSZ.out] at h1; omega
  have HL := hide hl
  have HPRO2 := hide (HPRO.out g1 g2 g3)
  have HWHO2 := hide (HWHO.out g1 g2 g3)
  have HSPO2 := hide (HSPO.out g1 g2 g3)
  have hbel1 := HB1.out.trans (hb1.mono (by rw [HSZ.out]; omega))
  have HX2 := hide (HX1.out.below hb1 HX1.out.lt)
  have HOP2 : Hid (w1.heap[w.heap.size + 1]? = some (.cells #[.int .i64 3, .int .i64 a, .int .i64 b, .int .i64 cc, .int .i64 d, .int .i64 e0, .string s, .string t] 57)) := Below.row hb1 HOP.out (lt_of_row HOP.out)
  have k0 : w1.cell? ⟨w.heap.size + 1, 0, none⟩ = some (.int .i64 3) := by rw [cell_of_row _ _ _ _ _ _ HOP2.out]; rfl
  have k2 : w1.cell? ⟨w.heap.size + 1, 2, none⟩ = some (.int .i64 b) := by rw [cell_of_row _ _ _ _ _ _ HOP2.out]; rfl
  have k3 : w1.cell? ⟨w.heap.size + 1, 3, none⟩ = some (.int .i64 cc) := by rw [cell_of_row _ _ _ _ _ _ HOP2.out]; rfl
  have hs1 := lt_of_row HOP2.out
  have l3 := hl.grants.lt
  have HL3 := hide (And.intro (show g1 < w1.heap.size by omega) (And.intro (show g2 < w1.heap.size by omega) l3))
  clear HLENT HPRO HWHO HSPO hl hb1 h1 HX1 HOP HB1 HSZ
  generalize lentV c v g1 g2 g3 = v' at *
  have HB2 := hide (below_box w1 (.cells #[.int .i64 c.labels, .slice v'.ea c.edges.length v'.ec, .slice v'.ra c.rules.length v'.rc, .slice v'.ga c.grants.length v'.gc] 31))
  have HY2 := hide (box_new w1 c v')
  have HL2 := hide (HL.out.below HB2.out HL3.out.1 HL3.out.2.1 HL3.out.2.2)
  unfold cfgCells at *
  go_wp2_with fail
  refine (HPRO2.out _ HL2.out).mono ?_
  rintro e w3 ⟨x0, x1, rfl, hc, hb3⟩
  have HC := hide hc
  have hb13 := HB2.out.trans (hb3.mono HB2.out.size)
  have hbel3 := hbel1.trans (hb13.mono hbel1.size)
  have HX3 := hide (HX2.out.below hb13 HX2.out.lt)
  have HY3 := hide (HY2.out.below hb3 HY2.out.lt)
  have HOP3 : Hid (w3.heap[w.heap.size + 1]? = some (.cells #[.int .i64 3, .int .i64 a, .int .i64 b, .int .i64 cc, .int .i64 d, .int .i64 e0, .string s, .string t] 57)) := Below.row hb13 HOP2.out hs1
  have HL4 := hide (HL.out.below hb13 HL3.out.1 HL3.out.2.1 HL3.out.2.2)
  have hsz3 := hb13.size
  clear k0 k2 k3 hb3 hc HX2 HOP2 HY2 HL2 HPRO2 hb13 HB2 HL
  obtain ⟨q0, q1, q2, q3⟩ := HX3.out.cells
  have k2 : w3.cell? ⟨w.heap.size + 1, 2, none⟩ = some (.int .i64 b) := by rw [cell_of_row _ _ _ _ _ _ HOP3.out]; rfl
  have k3 : w3.cell? ⟨w.heap.size + 1, 3, none⟩ = some (.int .i64 cc) := by rw [cell_of_row _ _ _ _ _ _ HOP3.out]; rfl
  go_wp2_with fail
  refine (HREF.out _ hbel3).mono ?_
  rintro e w4 ⟨y0, y1, rfl, hc2, hb4⟩
  obtain ⟨rfl, rfl⟩ := HC.out.same hc2
  have hbel4 := hbel3.trans (hb4.mono hbel3.size)
  have HX4 := hide (HX3.out.below hb4 HX3.out.lt)
  have HY4 := hide (HY3.out.below hb4 HY3.out.lt)
  have HL5 := hide (HL4.out.below hb4 (Nat.lt_of_lt_of_le HL3.out.1 hsz3) (Nat.lt_of_lt_of_le HL3.out.2.1 hsz3) (Nat.lt_of_lt_of_le HL3.out.2.2 hsz3))
  have hsz4 := hb4.size
  clear q0 q1 q2 q3 k2 k3 hc2 HC hb4 HX3 HY3 HL4 HREF
  obtain ⟨q0, q1, q2, q3⟩ := HX4.out.cells
  obtain ⟨p0, p1, p2, p3⟩ := HY4.out.cells
  go_wp2_with fail
  refine (HWHO2.out _ hbel4 HL5.out).mono ?_
  rintro e w5 ⟨rfl, hb5⟩
  have hbel5 := hbel4.trans (hb5.mono hbel4.size)
  have HY5 := hide (HY4.out.below hb5 HY4.out.lt)
  have hsz14 := Nat.le_trans hsz3 hsz4
  have HL6 := hide (HL5.out.below hb5 (Nat.lt_of_lt_of_le HL3.out.1 hsz14) (Nat.lt_of_lt_of_le HL3.out.2.1 hsz14) (Nat.lt_of_lt_of_le HL3.out.2.2 hsz14))
  clear q0 q1 q2 q3 p0 p1 p2 p3 hb5 HX4 HY4 HL5
  obtain ⟨p0, p1, p2, p3⟩ := HY5.out.cells
  go_wp2_with fail
  refine (HSPO2.out w.heap.size _ HL6.out h1' h12 h23).mono ?_
  rintro e w6 ⟨rfl, hb6⟩
  have hbel6 := hbel5.trans hb6
  clear p0 p1 p2 p3 hb6
  go_wp2
  go_ret
  exact ⟨rfl, hbel6⟩
set_option maxRecDepth 100000 in
set_option maxHeartbeats 4000000 in
theorem asked_4 (c : Cfg) (v : CfgV) (a b cc d e0 : Int) (s t : ByteArray) (w : World) (hok : CfgOk c) (hat : CfgAt w c v) (hnil : CfgNil c v) :
    Calls Tryz.prog 42 #[.agg (cfgCells c v), .agg #[.int .i64 4, .int .i64 a, .int .i64 b, .int .i64 cc, .int .i64 d, .int .i64 e0, .string s, .string t]] w fun e w' => e = .returned (.bool true) ∧ Below w.heap.size w w' := by
  have HLENT := hide (fun w' (hb : Below w.heap.size w w') => lent_any c v w' hok (hat.below hb) hnil)
  have HREF := hide (fun w' (hb : Below w.heap.size w w') => rMeet2_any c v b cc w' hok (hat.below hb))
  have HWHO := hide (fun g1 g2 g3 w' (hb : Below w.heap.size w w') hl => whole_any c v g1 g2 g3 w' hok (hat.below hb) hl)
  have HSPO := hide (fun g1 g2 g3 B w' hl hB h12 h23 => spoil_any c v g1 g2 g3 B w' hok hnil hl hB h12 h23)
  have HPRO := hide (fun g1 g2 g3 w' (hl : LentAt w' c g1 g2 g3) => vMeet_any c (lentV c v g1 g2 g3) b cc w' hok (hl.cfg hnil) (lent_cap hnil))
  have HB0 := hide (below_box w (.cells (cfgCells c v) 31))
  have HX0 := hide (box_new w c v)
  have HB1 := hide (HB0.out.alloc (by simp) (.cells #[.int .i64 4, .int .i64 a, .int .i64 b, .int .i64 cc, .int .i64 d, .int .i64 e0, .string s, .string t] 57))
  have HX1 := hide (HX0.out.below (below_box _ (.cells #[.int .i64 4, .int .i64 a, .int .i64 b, .int .i64 cc, .int .i64 d, .int .i64 e0, .string s, .string t] 57)) (by simp))
  have HOP := hide (heap_alloc2_new w (.cells (cfgCells c v) 31) (.cells #[.int .i64 4, .int .i64 a, .int .i64 b, .int .i64 cc, .int .i64 d, .int .i64 e0, .string s, .string t] 57))
  have HSZ := hide (show ((w.alloc (.cells (cfgCells c v) 31)).alloc (.cells #[.int .i64 4, .int .i64 a, .int .i64 b, .int .i64 cc, .int .i64 d, .int .i64 e0, .string s, .string t] 57)).heap.size = w.heap.size + 2 by simp)
  clear hok hat hnil HB0 HX0
  unfold cfgCells at *
  go_enter Tryz.func42, Tryz.ntmps42
  go_wp2_with fail
  refine (HLENT.out _ HB1.out).mono ?_
  rintro e w1 ⟨g1, g2, g3, rfl, hl, h1, h12, h23, hb1⟩
  have h1' : w.heap.size ≤ g1 := by rw [HSZ.out] at h1; omega
  have HL := hide hl
  have HPRO2 := hide (HPRO.out g1 g2 g3)
  have HWHO2 := hide (HWHO.out g1 g2 g3)
  have HSPO2 := hide (HSPO.out g1 g2 g3)
  have hbel1 := HB1.out.trans (hb1.mono (by rw [HSZ.out]; omega))
  have HX2 := hide (HX1.out.below hb1 HX1.out.lt)
  have HOP2 : Hid (w1.heap[w.heap.size + 1]? = some (.cells #[.int .i64 4, .int .i64 a, .int .i64 b, .int .i64 cc, .int .i64 d, .int .i64 e0, .string s, .string t] 57)) := Below.row hb1 HOP.out (lt_of_row HOP.out)
  have k0 : w1.cell? ⟨w.heap.size + 1, 0, none⟩ = some (.int .i64 4) := by rw [cell_of_row _ _ _ _ _ _ HOP2.out]; rfl
  have k2 : w1.cell? ⟨w.heap.size + 1, 2, none⟩ = some (.int .i64 b) := by rw [cell_of_row _ _ _ _ _ _ HOP2.out]; rfl
  have k3 : w1.cell? ⟨w.heap.size + 1, 3, none⟩ = some (.int .i64 cc) := by rw [cell_of_row _ _ _ _ _ _ HOP2.out]; rfl
  have hs1 := lt_of_row HOP2.out
  have l3 := hl.grants.lt
  have HL3 := hide (And.intro (show g1 < w1.heap.size by omega) (And.intro (show g2 < w1.heap.size by omega) l3))
  clear HLENT HPRO HWHO HSPO hl hb1 h1 HX1 HOP HB1 HSZ
  generalize lentV c v g1 g2 g3 = v' at *
  have HB2 := hide (below_box w1 (.cells #[.int .i64 c.labels, .slice v'.ea c.edges.length v'.ec, .slice v'.ra c.rules.length v'.rc, .slice v'.ga c.grants.length v'.gc] 31))
  have HY2 := hide (box_new w1 c v')
  have HL2 := hide (HL.out.below HB2.out HL3.out.1 HL3.out.2.1 HL3.out.2.2)
  unfold cfgCells at *
  go_wp2_with fail
  refine (HPRO2.out _ HL2.out).mono ?_
  rintro e w3 ⟨x0, x1, rfl, hc, hb3⟩
  have HC := hide hc
  have hb13 := HB2.out.trans (hb3.mono HB2.out.size)
  have hbel3 := hbel1.trans (hb13.mono hbel1.size)
  have HX3 := hide (HX2.out.below hb13 HX2.out.lt)
  have HY3 := hide (HY2.out.below hb3 HY2.out.lt)
  have HOP3 : Hid (w3.heap[w.heap.size + 1]? = some (.cells #[.int .i64 4, .int .i64 a, .int .i64 b, .int .i64 cc, .int .i64 d, .int .i64 e0, .string s, .string t] 57)) := Below.row hb13 HOP2.out hs1
  have HL4 := hide (HL.out.below hb13 HL3.out.1 HL3.out.2.1 HL3.out.2.2)
  have hsz3 := hb13.size
  clear k0 k2 k3 hb3 hc HX2 HOP2 HY2 HL2 HPRO2 hb13 HB2 HL
  obtain ⟨q0, q1, q2, q3⟩ := HX3.out.cells
  have k2 : w3.cell? ⟨w.heap.size + 1, 2, none⟩ = some (.int .i64 b) := by rw [cell_of_row _ _ _ _ _ _ HOP3.out]; rfl
  have k3 : w3.cell? ⟨w.heap.size + 1, 3, none⟩ = some (.int .i64 cc) := by rw [cell_of_row _ _ _ _ _ _ HOP3.out]; rfl
  go_wp2_with fail
  refine (HREF.out _ hbel3).mono ?_
  rintro e w4 ⟨y0, y1, rfl, hc2, hb4⟩
  obtain ⟨rfl, rfl⟩ := HC.out.same hc2
  have hbel4 := hbel3.trans (hb4.mono hbel3.size)
  have HX4 := hide (HX3.out.below hb4 HX3.out.lt)
  have HY4 := hide (HY3.out.below hb4 HY3.out.lt)
  have HL5 := hide (HL4.out.below hb4 (Nat.lt_of_lt_of_le HL3.out.1 hsz3) (Nat.lt_of_lt_of_le HL3.out.2.1 hsz3) (Nat.lt_of_lt_of_le HL3.out.2.2 hsz3))
  have hsz4 := hb4.size
  clear q0 q1 q2 q3 k2 k3 hc2 HC hb4 HX3 HY3 HL4 HREF
  obtain ⟨q0, q1, q2, q3⟩ := HX4.out.cells
  obtain ⟨p0, p1, p2, p3⟩ := HY4.out.cells
  go_wp2_with fail
  refine (HWHO2.out _ hbel4 HL5.out).mono ?_
  rintro e w5 ⟨rfl, hb5⟩
  have hbel5 := hbel4.trans (hb5.mono hbel4.size)
  have HY5 := hide (HY4.out.below hb5 HY4.out.lt)
  have hsz14 := Nat.le_trans hsz3 hsz4
  have HL6 := hide (HL5.out.below hb5 (Nat.lt_of_lt_of_le HL3.out.1 hsz14) (Nat.lt_of_lt_of_le HL3.out.2.1 hsz14) (Nat.lt_of_lt_of_le HL3.out.2.2 hsz14))
  clear q0 q1 q2 q3 p0 p1 p2 p3 hb5 HX4 HY4 HL5
  obtain ⟨p0, p1, p2, p3⟩ := HY5.out.cells
  go_wp2_with fail
  refine (HSPO2.out w.heap.size _ HL6.out h1' h12 h23).mono ?_
  rintro e w6 ⟨rfl, hb6⟩
  have hbel6 := hbel5.trans hb6
  clear p0 p1 p2 p3 hb6
  go_wp2
  go_ret
  exact ⟨rfl, hbel6⟩
end Go.Proofs.YtgigkiocdiffjaaGreat
