/- veilkeep: ordered, Lattice. -/
import Derived.Test.YtgigkiocdiffjaaKeep2
import Derived.Deep.RegionHeld
namespace Go.Proofs.Ytgigkiocdiffjaa
open Go.RowKit Veil
/-- What 'ordered' asks, and the answers. -/
structure Ords (c : Cfg) (v : CfgV) (w : World) (a b k j m : Nat) (y z u x s : Bool) : Prop where
  qy : ∀ w', Below w.heap.size w w' → Calls Try.prog 10 #[.agg (cfgCells c v), .int .i64 a, .int .i64 b] w' fun e w'' => e = .returned (.tuple #[.bool y, .bool true]) ∧ Below w'.heap.size w' w''
  qz : ∀ w', Below w.heap.size w w' → Calls Try.prog 10 #[.agg (cfgCells c v), .int .i64 b, .int .i64 a] w' fun e w'' => e = .returned (.tuple #[.bool z, .bool true]) ∧ Below w'.heap.size w' w''
  qu : ∀ w', Below w.heap.size w w' → Calls Try.prog 10 #[.agg (cfgCells c v), .int .i64 b, .int .i64 k] w' fun e w'' => e = .returned (.tuple #[.bool u, .bool true]) ∧ Below w'.heap.size w' w''
  qx : ∀ w', Below w.heap.size w w' → Calls Try.prog 10 #[.agg (cfgCells c v), .int .i64 a, .int .i64 k] w' fun e w'' => e = .returned (.tuple #[.bool x, .bool true]) ∧ Below w'.heap.size w' w''
  qs : ∀ w', Below w.heap.size w w' → Calls Try.prog 33 #[.agg (cfgCells c v), .int .i64 a, .int .i64 b] w' fun e w'' => e = .returned (.bool s) ∧ Below w'.heap.size w' w''
  qj : ∀ w', Below w.heap.size w w' → Calls Try.prog 13 #[.agg (cfgCells c v), .int .i64 a, .int .i64 b] w' fun e w'' => e = .returned (.tuple #[.int .i64 j, .int .i64 0]) ∧ Below w'.heap.size w' w''
  qm : ∀ w', Below w.heap.size w w' → Calls Try.prog 14 #[.agg (cfgCells c v), .int .i64 a, .int .i64 b] w' fun e w'' => e = .returned (.tuple #[.int .i64 m, .int .i64 0]) ∧ Below w'.heap.size w' w''
  lj : ∀ w', Calls Try.prog 11 #[.agg (cfgCells c v), .int .i64 j] w' fun e w'' => e = .returned (.bool true) ∧ Below w'.heap.size w' w''
  lm : ∀ w', Calls Try.prog 11 #[.agg (cfgCells c v), .int .i64 m] w' fun e w'' => e = .returned (.bool true) ∧ Below w'.heap.size w' w''
  up : ∀ w', Below w.heap.size w w' → Calls Try.prog 34 #[.agg (cfgCells c v), .int .i64 a, .int .i64 b, .int .i64 j, .int .i64 k, .bool false] w' fun e w'' => e = .returned (.bool true) ∧ Below w'.heap.size w' w''
  down : ∀ w', Below w.heap.size w w' → Calls Try.prog 34 #[.agg (cfgCells c v), .int .i64 a, .int .i64 b, .int .i64 m, .int .i64 k, .bool true] w' fun e w'' => e = .returned (.bool true) ∧ Below w'.heap.size w' w''
theorem Asks.below {c : Cfg} {v : CfgV} {w w' : World} (h : Asks c v w) (hb : Below w.heap.size w w') : Asks c v w' := ⟨fun x y w'' hx hy hb' => h.le x y w'' hx hy (hb.trans (hb'.mono hb.size))⟩
theorem ords_of (c : Cfg) (v : CfgV) (a b k : Nat) (w : World) (hok : CfgOk c) (hat : CfgAt w c v) (hcap : c.rules.length ≤ v.rc) (hr : CheckIs c 0) (ha : a < c.n) (hb : b < c.n) (hk : k < c.n) :
    ∃ j m, Ords c v w a b k j m (c.le a b) (c.le b a) (c.le b k) (c.le a k) (stepB c a b c.edges) := by
  have hR := right_of hr
  obtain ⟨j, hj, ej, j1, j2, j3⟩ := join_is hR a b ha hb
  obtain ⟨m, hm, em, m1, m2, m3⟩ := meet_is hR a b ha hb
  have hq := asks_of hok hat hcap hr
  refine ⟨j, m, fun w' h => hq.le _ _ w' ha hb h, fun w' h => hq.le _ _ w' hb ha h, fun w' h => hq.le _ _ w' hb hk h, fun w' h => hq.le _ _ w' ha hk h,
    fun w' h => kstep_any c v a b w' hR.labels (hat.below h) (hq.below h) ha hb, fun w' h => ?_, fun w' h => ?_, fun w' => ?_, fun w' => ?_,
    fun w' h => boundUp_any c v a b j k w' (hq.below h) ha hb hj hk j1 j2 (j3 k hk), fun w' h => boundDown_any c v a b m k w' (hq.below h) ha hb hm hk m1 m2 (m3 k hk)⟩
  · refine (vJoin_any c v a b w' hok (hat.below h) hcap).mono ?_
    rintro e w2 ⟨r, code, rfl, h2, hb2⟩
    obtain ⟨rfl, rfl⟩ := h2.get hr (hR.okL ha) (hR.okL hb)
    exact ⟨by rw [ej], hb2⟩
  · refine (vMeet_any c v a b w' hok (hat.below h) hcap).mono ?_
    rintro e w2 ⟨r, code, rfl, h2, hb2⟩
    obtain ⟨rfl, rfl⟩ := h2.get hr (hR.okL ha) (hR.okL hb)
    exact ⟨by rw [em], hb2⟩
  · have := klabel_any c v j w'
    rwa [hR.okL hj] at this
  · have := klabel_any c v m w'
    rwa [hR.okL hm] at this
set_option maxRecDepth 100000 in
set_option maxHeartbeats 16000000 in
theorem ordered_same (c : Cfg) (v : CfgV) (a k j m : Nat) (u s : Bool) (w : World) (h : Ords c v w a a k j m true true u u s) :
    Calls Try.prog 15 #[.agg (cfgCells c v), .int .i64 a, .int .i64 a, .int .i64 k] w fun e w' => e = .returned (.bool true) ∧ Below w.heap.size w w' := by
  cases u
  all_goals
    have HX0 := hide (box_new w c v)
    have hbel0 := below_box w (.cells (cfgCells c v) 31)
    obtain ⟨q0, q1, q2, q3⟩ := HX0.out.cells
    have HO := hide h
    clear h
    unfold cfgCells at *
    go_enter Try.func15, Try.ntmps15
    go_wp2_with fail
    refine (HO.out.qy _ hbel0).mono ?_
    rintro e w1 ⟨rfl, hb1⟩
    have HX1 := hide (HX0.out.below hb1 HX0.out.lt)
    have hbel1 := hbel0.trans (hb1.mono hbel0.size)
    clear hb1 q0 q1 q2 q3
    obtain ⟨q0, q1, q2, q3⟩ := HX1.out.cells
    clear HX0 hbel0
    go_wp2_with fail
    refine (HO.out.qz _ hbel1).mono ?_
    rintro e w2 ⟨rfl, hb2⟩
    have HX2 := hide (HX1.out.below hb2 HX1.out.lt)
    have hbel2 := hbel1.trans (hb2.mono hbel1.size)
    clear hb2 q0 q1 q2 q3
    obtain ⟨q0, q1, q2, q3⟩ := HX2.out.cells
    clear HX1 hbel1
    go_wp2_with fail
    refine (HO.out.qu _ hbel2).mono ?_
    rintro e w3 ⟨rfl, hb3⟩
    have HX3 := hide (HX2.out.below hb3 HX2.out.lt)
    have hbel3 := hbel2.trans (hb3.mono hbel2.size)
    clear hb3 q0 q1 q2 q3
    obtain ⟨q0, q1, q2, q3⟩ := HX3.out.cells
    clear HX2 hbel2
    go_wp2_with fail
    refine (HO.out.qx _ hbel3).mono ?_
    rintro e w4 ⟨rfl, hb4⟩
    have HX4 := hide (HX3.out.below hb4 HX3.out.lt)
    have hbel4 := hbel3.trans (hb4.mono hbel3.size)
    clear hb4 q0 q1 q2 q3
    obtain ⟨q0, q1, q2, q3⟩ := HX4.out.cells
    clear HX3 hbel3
    go_wp2_with fail
    refine (HO.out.qj _ hbel4).mono ?_
    rintro e w5 ⟨rfl, hb5⟩
    have HX5 := hide (HX4.out.below hb5 HX4.out.lt)
    have hbel5 := hbel4.trans (hb5.mono hbel4.size)
    clear hb5 q0 q1 q2 q3
    obtain ⟨q0, q1, q2, q3⟩ := HX5.out.cells
    clear HX4 hbel4
    go_wp2_with fail
    refine (HO.out.qm _ hbel5).mono ?_
    rintro e w6 ⟨rfl, hb6⟩
    have HX6 := hide (HX5.out.below hb6 HX5.out.lt)
    have hbel6 := hbel5.trans (hb6.mono hbel5.size)
    clear hb6 q0 q1 q2 q3
    obtain ⟨q0, q1, q2, q3⟩ := HX6.out.cells
    clear HX5 hbel5
    go_wp2_with fail
    refine (HO.out.lj _).mono ?_
    rintro e w7 ⟨rfl, hb7⟩
    have HX7 := hide (HX6.out.below hb7 HX6.out.lt)
    have hbel7 := hbel6.trans (hb7.mono hbel6.size)
    clear hb7 q0 q1 q2 q3
    obtain ⟨q0, q1, q2, q3⟩ := HX7.out.cells
    clear HX6 hbel6
    go_wp2_with fail
    refine (HO.out.lm _).mono ?_
    rintro e w8 ⟨rfl, hb8⟩
    have HX8 := hide (HX7.out.below hb8 HX7.out.lt)
    have hbel8 := hbel7.trans (hb8.mono hbel7.size)
    clear hb8 q0 q1 q2 q3
    obtain ⟨q0, q1, q2, q3⟩ := HX8.out.cells
    clear HX7 hbel7
    go_wp2_with fail
    refine (HO.out.up _ hbel8).mono ?_
    rintro e w9 ⟨rfl, hb9⟩
    have HX9 := hide (HX8.out.below hb9 HX8.out.lt)
    have hbel9 := hbel8.trans (hb9.mono hbel8.size)
    clear hb9 q0 q1 q2 q3
    obtain ⟨q0, q1, q2, q3⟩ := HX9.out.cells
    clear HX8 hbel8
    go_wp2_with fail
    refine (HO.out.down _ hbel9).mono ?_
    rintro e w99 ⟨rfl, hb99⟩
    have hbel99 := hbel9.trans (hb99.mono hbel9.size)
    clear hb99 q0 q1 q2 q3 hbel9 HX9
    go_wp2
    go_ret
    exact ⟨rfl, hbel99⟩
set_option maxRecDepth 100000 in
set_option maxHeartbeats 16000000 in
theorem ordered_no (c : Cfg) (v : CfgV) (a b k j m : Nat) (z u x s : Bool) (w : World) (h : Ords c v w a b k j m false z u x s) (hne : a ≠ b) :
    Calls Try.prog 15 #[.agg (cfgCells c v), .int .i64 a, .int .i64 b, .int .i64 k] w fun e w' => e = .returned (.bool true) ∧ Below w.heap.size w w' := by
  have hn1 : ((a : Int) == (b : Int)) = false := by simp; omega
  have hn2 : ¬ (a : Int) = (b : Int) := by omega
  have HX0 := hide (box_new w c v)
  have hbel0 := below_box w (.cells (cfgCells c v) 31)
  obtain ⟨q0, q1, q2, q3⟩ := HX0.out.cells
  have HO := hide h
  clear h
  unfold cfgCells at *
  go_enter Try.func15, Try.ntmps15
  go_wp2_with fail
  refine (HO.out.qy _ hbel0).mono ?_
  rintro e w1 ⟨rfl, hb1⟩
  have HX1 := hide (HX0.out.below hb1 HX0.out.lt)
  have hbel1 := hbel0.trans (hb1.mono hbel0.size)
  clear hb1 q0 q1 q2 q3
  obtain ⟨q0, q1, q2, q3⟩ := HX1.out.cells
  clear HX0 hbel0
  go_wp2_with fail
  refine (HO.out.qz _ hbel1).mono ?_
  rintro e w2 ⟨rfl, hb2⟩
  have HX2 := hide (HX1.out.below hb2 HX1.out.lt)
  have hbel2 := hbel1.trans (hb2.mono hbel1.size)
  clear hb2 q0 q1 q2 q3
  obtain ⟨q0, q1, q2, q3⟩ := HX2.out.cells
  clear HX1 hbel1
  go_wp2_with fail
  refine (HO.out.qu _ hbel2).mono ?_
  rintro e w3 ⟨rfl, hb3⟩
  have HX3 := hide (HX2.out.below hb3 HX2.out.lt)
  have hbel3 := hbel2.trans (hb3.mono hbel2.size)
  clear hb3 q0 q1 q2 q3
  obtain ⟨q0, q1, q2, q3⟩ := HX3.out.cells
  clear HX2 hbel2
  go_wp2_with fail
  refine (HO.out.qx _ hbel3).mono ?_
  rintro e w4 ⟨rfl, hb4⟩
  have HX4 := hide (HX3.out.below hb4 HX3.out.lt)
  have hbel4 := hbel3.trans (hb4.mono hbel3.size)
  clear hb4 q0 q1 q2 q3
  obtain ⟨q0, q1, q2, q3⟩ := HX4.out.cells
  clear HX3 hbel3
  go_wp2_with fail
  refine (HO.out.qj _ hbel4).mono ?_
  rintro e w5 ⟨rfl, hb5⟩
  have HX5 := hide (HX4.out.below hb5 HX4.out.lt)
  have hbel5 := hbel4.trans (hb5.mono hbel4.size)
  clear hb5 q0 q1 q2 q3
  obtain ⟨q0, q1, q2, q3⟩ := HX5.out.cells
  clear HX4 hbel4
  go_wp2_with fail
  refine (HO.out.qm _ hbel5).mono ?_
  rintro e w6 ⟨rfl, hb6⟩
  have HX6 := hide (HX5.out.below hb6 HX5.out.lt)
  have hbel6 := hbel5.trans (hb6.mono hbel5.size)
  clear hb6 q0 q1 q2 q3
  obtain ⟨q0, q1, q2, q3⟩ := HX6.out.cells
  clear HX5 hbel5
  go_wp2_with fail
  refine (HO.out.lj _).mono ?_
  rintro e w7 ⟨rfl, hb7⟩
  have HX7 := hide (HX6.out.below hb7 HX6.out.lt)
  have hbel7 := hbel6.trans (hb7.mono hbel6.size)
  clear hb7 q0 q1 q2 q3
  obtain ⟨q0, q1, q2, q3⟩ := HX7.out.cells
  clear HX6 hbel6
  go_wp2_with fail
  refine (HO.out.lm _).mono ?_
  rintro e w8 ⟨rfl, hb8⟩
  have HX8 := hide (HX7.out.below hb8 HX7.out.lt)
  have hbel8 := hbel7.trans (hb8.mono hbel7.size)
  clear hb8 q0 q1 q2 q3
  obtain ⟨q0, q1, q2, q3⟩ := HX8.out.cells
  clear HX7 hbel7
  go_wp2_with fail
  refine (HO.out.up _ hbel8).mono ?_
  rintro e w9 ⟨rfl, hb9⟩
  have HX9 := hide (HX8.out.below hb9 HX8.out.lt)
  have hbel9 := hbel8.trans (hb9.mono hbel8.size)
  clear hb9 q0 q1 q2 q3
  obtain ⟨q0, q1, q2, q3⟩ := HX9.out.cells
  clear HX8 hbel8
  go_wp2_with fail
  refine (HO.out.down _ hbel9).mono ?_
  rintro e w99 ⟨rfl, hb99⟩
  have hbel99 := hbel9.trans (hb99.mono hbel9.size)
  clear hb99 q0 q1 q2 q3 hbel9 HX9
  go_wp2
  go_ret
  exact ⟨rfl, hbel99⟩
set_option maxRecDepth 100000 in
set_option maxHeartbeats 16000000 in
theorem ordered_yes (c : Cfg) (v : CfgV) (a b k j m : Nat) (u x : Bool) (w : World) (h : Ords c v w a b k j m true false u x true) (hne : a ≠ b) (hux : u = true → x = true) :
    Calls Try.prog 15 #[.agg (cfgCells c v), .int .i64 a, .int .i64 b, .int .i64 k] w fun e w' => e = .returned (.bool true) ∧ Below w.heap.size w w' := by
  have hn1 : ((a : Int) == (b : Int)) = false := by simp; omega
  have hn2 : ¬ (a : Int) = (b : Int) := by omega
  cases u
  · clear hux
    have HX0 := hide (box_new w c v)
    have hbel0 := below_box w (.cells (cfgCells c v) 31)
    obtain ⟨q0, q1, q2, q3⟩ := HX0.out.cells
    have HO := hide h
    clear h
    unfold cfgCells at *
    go_enter Try.func15, Try.ntmps15
    go_wp2_with fail
    refine (HO.out.qy _ hbel0).mono ?_
    rintro e w1 ⟨rfl, hb1⟩
    have HX1 := hide (HX0.out.below hb1 HX0.out.lt)
    have hbel1 := hbel0.trans (hb1.mono hbel0.size)
    clear hb1 q0 q1 q2 q3
    obtain ⟨q0, q1, q2, q3⟩ := HX1.out.cells
    clear HX0 hbel0
    go_wp2_with fail
    refine (HO.out.qz _ hbel1).mono ?_
    rintro e w2 ⟨rfl, hb2⟩
    have HX2 := hide (HX1.out.below hb2 HX1.out.lt)
    have hbel2 := hbel1.trans (hb2.mono hbel1.size)
    clear hb2 q0 q1 q2 q3
    obtain ⟨q0, q1, q2, q3⟩ := HX2.out.cells
    clear HX1 hbel1
    go_wp2_with fail
    refine (HO.out.qs _ hbel2).mono ?_
    rintro e w3 ⟨rfl, hb3⟩
    have HX3 := hide (HX2.out.below hb3 HX2.out.lt)
    have hbel3 := hbel2.trans (hb3.mono hbel2.size)
    clear hb3 q0 q1 q2 q3
    obtain ⟨q0, q1, q2, q3⟩ := HX3.out.cells
    clear HX2 hbel2
    go_wp2_with fail
    refine (HO.out.qu _ hbel3).mono ?_
    rintro e w4 ⟨rfl, hb4⟩
    have HX4 := hide (HX3.out.below hb4 HX3.out.lt)
    have hbel4 := hbel3.trans (hb4.mono hbel3.size)
    clear hb4 q0 q1 q2 q3
    obtain ⟨q0, q1, q2, q3⟩ := HX4.out.cells
    clear HX3 hbel3
    go_wp2_with fail
    refine (HO.out.qx _ hbel4).mono ?_
    rintro e w5 ⟨rfl, hb5⟩
    have HX5 := hide (HX4.out.below hb5 HX4.out.lt)
    have hbel5 := hbel4.trans (hb5.mono hbel4.size)
    clear hb5 q0 q1 q2 q3
    obtain ⟨q0, q1, q2, q3⟩ := HX5.out.cells
    clear HX4 hbel4
    go_wp2_with fail
    refine (HO.out.qj _ hbel5).mono ?_
    rintro e w6 ⟨rfl, hb6⟩
    have HX6 := hide (HX5.out.below hb6 HX5.out.lt)
    have hbel6 := hbel5.trans (hb6.mono hbel5.size)
    clear hb6 q0 q1 q2 q3
    obtain ⟨q0, q1, q2, q3⟩ := HX6.out.cells
    clear HX5 hbel5
    go_wp2_with fail
    refine (HO.out.qm _ hbel6).mono ?_
    rintro e w7 ⟨rfl, hb7⟩
    have HX7 := hide (HX6.out.below hb7 HX6.out.lt)
    have hbel7 := hbel6.trans (hb7.mono hbel6.size)
    clear hb7 q0 q1 q2 q3
    obtain ⟨q0, q1, q2, q3⟩ := HX7.out.cells
    clear HX6 hbel6
    go_wp2_with fail
    refine (HO.out.lj _).mono ?_
    rintro e w8 ⟨rfl, hb8⟩
    have HX8 := hide (HX7.out.below hb8 HX7.out.lt)
    have hbel8 := hbel7.trans (hb8.mono hbel7.size)
    clear hb8 q0 q1 q2 q3
    obtain ⟨q0, q1, q2, q3⟩ := HX8.out.cells
    clear HX7 hbel7
    go_wp2_with fail
    refine (HO.out.lm _).mono ?_
    rintro e w9 ⟨rfl, hb9⟩
    have HX9 := hide (HX8.out.below hb9 HX8.out.lt)
    have hbel9 := hbel8.trans (hb9.mono hbel8.size)
    clear hb9 q0 q1 q2 q3
    obtain ⟨q0, q1, q2, q3⟩ := HX9.out.cells
    clear HX8 hbel8
    go_wp2_with fail
    refine (HO.out.up _ hbel9).mono ?_
    rintro e w10 ⟨rfl, hb10⟩
    have HX10 := hide (HX9.out.below hb10 HX9.out.lt)
    have hbel10 := hbel9.trans (hb10.mono hbel9.size)
    clear hb10 q0 q1 q2 q3
    obtain ⟨q0, q1, q2, q3⟩ := HX10.out.cells
    clear HX9 hbel9
    go_wp2_with fail
    refine (HO.out.down _ hbel10).mono ?_
    rintro e w99 ⟨rfl, hb99⟩
    have hbel99 := hbel10.trans (hb99.mono hbel10.size)
    clear hb99 q0 q1 q2 q3 hbel10 HX10
    go_wp2
    go_ret
    exact ⟨rfl, hbel99⟩
  · obtain rfl := hux rfl
    clear hux
    have HX0 := hide (box_new w c v)
    have hbel0 := below_box w (.cells (cfgCells c v) 31)
    obtain ⟨q0, q1, q2, q3⟩ := HX0.out.cells
    have HO := hide h
    clear h
    unfold cfgCells at *
    go_enter Try.func15, Try.ntmps15
    go_wp2_with fail
    refine (HO.out.qy _ hbel0).mono ?_
    rintro e w1 ⟨rfl, hb1⟩
    have HX1 := hide (HX0.out.below hb1 HX0.out.lt)
    have hbel1 := hbel0.trans (hb1.mono hbel0.size)
    clear hb1 q0 q1 q2 q3
    obtain ⟨q0, q1, q2, q3⟩ := HX1.out.cells
    clear HX0 hbel0
    go_wp2_with fail
    refine (HO.out.qz _ hbel1).mono ?_
    rintro e w2 ⟨rfl, hb2⟩
    have HX2 := hide (HX1.out.below hb2 HX1.out.lt)
    have hbel2 := hbel1.trans (hb2.mono hbel1.size)
    clear hb2 q0 q1 q2 q3
    obtain ⟨q0, q1, q2, q3⟩ := HX2.out.cells
    clear HX1 hbel1
    go_wp2_with fail
    refine (HO.out.qs _ hbel2).mono ?_
    rintro e w3 ⟨rfl, hb3⟩
    have HX3 := hide (HX2.out.below hb3 HX2.out.lt)
    have hbel3 := hbel2.trans (hb3.mono hbel2.size)
    clear hb3 q0 q1 q2 q3
    obtain ⟨q0, q1, q2, q3⟩ := HX3.out.cells
    clear HX2 hbel2
    go_wp2_with fail
    refine (HO.out.qu _ hbel3).mono ?_
    rintro e w4 ⟨rfl, hb4⟩
    have HX4 := hide (HX3.out.below hb4 HX3.out.lt)
    have hbel4 := hbel3.trans (hb4.mono hbel3.size)
    clear hb4 q0 q1 q2 q3
    obtain ⟨q0, q1, q2, q3⟩ := HX4.out.cells
    clear HX3 hbel3
    go_wp2_with fail
    refine (HO.out.qx _ hbel4).mono ?_
    rintro e w5 ⟨rfl, hb5⟩
    have HX5 := hide (HX4.out.below hb5 HX4.out.lt)
    have hbel5 := hbel4.trans (hb5.mono hbel4.size)
    clear hb5 q0 q1 q2 q3
    obtain ⟨q0, q1, q2, q3⟩ := HX5.out.cells
    clear HX4 hbel4
    go_wp2_with fail
    refine (HO.out.qj _ hbel5).mono ?_
    rintro e w6 ⟨rfl, hb6⟩
    have HX6 := hide (HX5.out.below hb6 HX5.out.lt)
    have hbel6 := hbel5.trans (hb6.mono hbel5.size)
    clear hb6 q0 q1 q2 q3
    obtain ⟨q0, q1, q2, q3⟩ := HX6.out.cells
    clear HX5 hbel5
    go_wp2_with fail
    refine (HO.out.qm _ hbel6).mono ?_
    rintro e w7 ⟨rfl, hb7⟩
    have HX7 := hide (HX6.out.below hb7 HX6.out.lt)
    have hbel7 := hbel6.trans (hb7.mono hbel6.size)
    clear hb7 q0 q1 q2 q3
    obtain ⟨q0, q1, q2, q3⟩ := HX7.out.cells
    clear HX6 hbel6
    go_wp2_with fail
    refine (HO.out.lj _).mono ?_
    rintro e w8 ⟨rfl, hb8⟩
    have HX8 := hide (HX7.out.below hb8 HX7.out.lt)
    have hbel8 := hbel7.trans (hb8.mono hbel7.size)
    clear hb8 q0 q1 q2 q3
    obtain ⟨q0, q1, q2, q3⟩ := HX8.out.cells
    clear HX7 hbel7
    go_wp2_with fail
    refine (HO.out.lm _).mono ?_
    rintro e w9 ⟨rfl, hb9⟩
    have HX9 := hide (HX8.out.below hb9 HX8.out.lt)
    have hbel9 := hbel8.trans (hb9.mono hbel8.size)
    clear hb9 q0 q1 q2 q3
    obtain ⟨q0, q1, q2, q3⟩ := HX9.out.cells
    clear HX8 hbel8
    go_wp2_with fail
    refine (HO.out.up _ hbel9).mono ?_
    rintro e w10 ⟨rfl, hb10⟩
    have HX10 := hide (HX9.out.below hb10 HX9.out.lt)
    have hbel10 := hbel9.trans (hb10.mono hbel9.size)
    clear hb10 q0 q1 q2 q3
    obtain ⟨q0, q1, q2, q3⟩ := HX10.out.cells
    clear HX9 hbel9
    go_wp2_with fail
    refine (HO.out.down _ hbel10).mono ?_
    rintro e w99 ⟨rfl, hb99⟩
    have hbel99 := hbel10.trans (hb99.mono hbel10.size)
    clear hb99 q0 q1 q2 q3 hbel10 HX10
    go_wp2
    go_ret
    exact ⟨rfl, hbel99⟩
theorem ordered_any (c : Cfg) (v : CfgV) (a b k : Nat) (w : World) (hok : CfgOk c) (hat : CfgAt w c v) (hcap : c.rules.length ≤ v.rc) (hr : CheckIs c 0) (ha : a < c.n) (hb : b < c.n) (hk : k < c.n) :
    Calls Try.prog 15 #[.agg (cfgCells c v), .int .i64 a, .int .i64 b, .int .i64 k] w fun e w' => e = .returned (.bool true) ∧ Below w.heap.size w w' := by
  have hR := right_of hr
  obtain ⟨j, m, h⟩ := ords_of c v a b k w hok hat hcap hr ha hb hk
  by_cases hab : a = b
  · subst hab
    rw [le_refl' hR.labels a ha] at h
    exact ordered_same c v a k j m _ _ w h
  · cases hy : c.le a b
    · rw [hy] at h
      exact ordered_no c v a b k j m _ _ _ _ w h hab
    · have hz : c.le b a = false := by
        have := le_anti hR ha hb hab
        rw [hy] at this
        simpa using this
      rw [hy, hz, step_true hR ha hab hy] at h
      exact ordered_yes c v a b k j m _ _ w h hab fun hu => le_trans' hR ha hb hy hu
end Go.Proofs.Ytgigkiocdiffjaa
