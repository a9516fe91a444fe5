/- veilref.two, Leq, Join, Meet. -/
import Derived.Test.YtgigkiocdiffjaaGreatVeil2
namespace Go.Proofs.YtgigkiocdiffjaaGreat
open Go.RowKit Veil
set_option maxRecDepth 100000 in
set_option maxHeartbeats 4000000 in
theorem rtwo_any (c : Cfg) (v : CfgV) (a b : Int) (w : World) (hok : CfgOk c) (hat : CfgAt w c v) :
    Calls Tryz.prog 129 #[.agg (cfgCells c v), .int .i64 a, .int .i64 b] w fun e w' => ∃ code, e = .returned (.int .i64 code) ∧ (TwoNo c a b code ∨ TwoOk c a b code) ∧ Below w.heap.size w w' := by
  have HQ := hide (fun w' (hb : Below w.heap.size w w') => rCheck_any c v w' hok (hat.below hb))
  have HB0 := hide (below_box w (.cells (cfgCells c v) 31))
  have HX0 := hide (box_new w c v)
  have HHA := hide (fun (x : Int) (w' : World) => rlabel_any c v x w')
  clear hok hat
  unfold cfgCells at *
  go_enter Tryz.func129, Tryz.ntmps129
  go_wp2_with fail
  refine (HQ.out _ HB0.out).mono ?_
  rintro e w1 ⟨code, rfl, hc, hb1⟩
  have HC := hide hc
  have hbel1 := HB0.out.trans (hb1.mono (by simp))
  have HX1 := hide (HX0.out.below hb1 HX0.out.lt)
  obtain ⟨q0, q1, q2, q3⟩ := HX1.out.cells
  clear hb1 HB0 HQ hc HX0
  cases hcode : (code == 0)
  · have hne : Hid (code ≠ 0) := (show code ≠ 0 by simpa using hcode)
    go_wp2
    go_ret
    exact ⟨code, rfl, Or.inl ⟨hne.out, code, HC.out, fun _ => rfl, fun h => absurd h hne.out⟩, hbel1⟩
  obtain rfl : code = 0 := by simpa using hcode
  clear hcode
  cases g1 : okL c.labels a
  · have G1 := hide g1
    clear g1
    go_wp2_with fail
    refine (HHA.out a _).mono ?_
    rintro e w4 ⟨rfl, hb4⟩
    rw [G1.out]
    have hbel4 := hbel1.trans (hb4.mono hbel1.size)
    clear hb4
    go_wp2
    go_ret
    exact ⟨6, rfl, Or.inl ⟨by decide, 0, HC.out, fun h => absurd rfl h, fun _ => ⟨by rw [G1.out]; rfl, rfl⟩⟩, hbel4⟩
  have G1 := hide g1
  clear g1
  go_wp2_with fail
  refine (HHA.out a _).mono ?_
  rintro e w4 ⟨rfl, hb4⟩
  rw [G1.out]
  have hbel4 := hbel1.trans (hb4.mono hbel1.size)
  have HX4 := hide (HX1.out.below hb4 HX1.out.lt)
  clear q0 q1 q2 q3 hb4
  obtain ⟨q0, q1, q2, q3⟩ := HX4.out.cells
  go_wp2_with fail
  refine (HHA.out b _).mono ?_
  rintro e w5 ⟨rfl, hb5⟩
  have hbel5 := hbel4.trans (hb5.mono hbel4.size)
  clear q0 q1 q2 q3 hb5
  cases g2 : okL c.labels b
  · have G2 := hide g2
    clear g2
    go_wp2
    go_ret
    exact ⟨6, rfl, Or.inl ⟨by decide, 0, HC.out, fun h => absurd rfl h, fun _ => ⟨by rw [G2.out]; simp, rfl⟩⟩, hbel5⟩
  · have G2 := hide g2
    clear g2
    go_wp2
    go_ret
    exact ⟨0, rfl, Or.inr ⟨HC.out, rfl, G1.out, G2.out⟩, hbel5⟩
set_option maxRecDepth 100000 in
set_option maxHeartbeats 4000000 in
theorem rLeq2_any (c : Cfg) (v : CfgV) (a b : Int) (w : World) (hok : CfgOk c) (hat : CfgAt w c v) :
    Calls Tryz.prog 85 #[.agg (cfgCells c v), .int .i64 a, .int .i64 b] w fun e w' => ∃ r code, e = .returned (.tuple #[.bool r, .int .i64 code]) ∧ TwoIs c a b false (c.le a b) r code ∧ Below w.heap.size w w' := by
  have HQ := hide (fun w' (hb : Below w.heap.size w w') => rtwo_any c v a b w' hok (hat.below hb))
  have HB0 := hide (below_box w (.cells (cfgCells c v) 31))
  have HX0 := hide (box_new w c v)
  have HR := hide (fun (x y : Nat) (w' : World) (hl : labelsB c = true) (hx : x < c.n) (hy : y < c.n) (hb : Below w.heap.size w w') => rleq_any c v x y w' hl (hat.below hb) hx hy)
  clear hok hat
  unfold cfgCells at *
  go_enter Tryz.func85, Tryz.ntmps85
  go_wp2_with fail
  refine (HQ.out _ HB0.out).mono ?_
  rintro e w1 ⟨code, rfl, hc, hb1⟩
  have HC := hide hc
  have hbel1 := HB0.out.trans (hb1.mono (by simp))
  have HX1 := hide (HX0.out.below hb1 HX0.out.lt)
  obtain ⟨q0, q1, q2, q3⟩ := HX1.out.cells
  clear hb1 HB0 HQ hc
  rcases HC.out with h | h
  · have HNO := hide h
    have hcode : (code == 0) = false := by simpa using h.ne
    clear h
    go_wp2
    go_ret2
    exact ⟨false, code, rfl, HNO.out.two _ _, hbel1⟩
  · obtain ⟨hl, hn6, hnl, x, y, rfl, rfl, hx, hy⟩ := h.nat
    have HOK := hide h
    have HL := hide (fun w' hb => HR.out x y w' hl hx hy hb)
    have hcode : code = 0 := h.zero
    subst hcode
    clear h hl hn6 hnl HC hx hy HR
    go_wp2_with fail
    refine (HL.out _ hbel1).mono ?_
    rintro e w4 ⟨rfl, hb4⟩
    have hbel4 := hbel1.trans (hb4.mono hbel1.size)
    clear hb4
    go_wp2
    go_ret2
    exact ⟨_, 0, rfl, HOK.out.two' _ _, hbel4⟩
set_option maxRecDepth 100000 in
set_option maxHeartbeats 4000000 in
theorem rJoin2_any (c : Cfg) (v : CfgV) (a b : Int) (w : World) (hok : CfgOk c) (hat : CfgAt w c v) :
    Calls Tryz.prog 87 #[.agg (cfgCells c v), .int .i64 a, .int .i64 b] w fun e w' => ∃ r code, e = .returned (.tuple #[.int .i64 r, .int .i64 code]) ∧ TwoIs c a b 0 (c.join a b) r code ∧ Below w.heap.size w w' := by
  have HQ := hide (fun w' (hb : Below w.heap.size w w') => rtwo_any c v a b w' hok (hat.below hb))
  have HB0 := hide (below_box w (.cells (cfgCells c v) 31))
  have HX0 := hide (box_new w c v)
  have HR := hide (fun (x y : Nat) (w' : World) (hl : labelsB c = true) (hx : x < c.n) (hy : y < c.n) (hb : Below w.heap.size w w') => rjoin_any c v x y w' hl (hat.below hb) hx hy)
  clear hok hat
  unfold cfgCells at *
  go_enter Tryz.func87, Tryz.ntmps87
  go_wp2_with fail
  refine (HQ.out _ HB0.out).mono ?_
  rintro e w1 ⟨code, rfl, hc, hb1⟩
  have HC := hide hc
  have hbel1 := HB0.out.trans (hb1.mono (by simp))
  have HX1 := hide (HX0.out.below hb1 HX0.out.lt)
  obtain ⟨q0, q1, q2, q3⟩ := HX1.out.cells
  clear hb1 HB0 HQ hc
  rcases HC.out with h | h
  · have HNO := hide h
    have hcode : (code == 0) = false := by simpa using h.ne
    clear h
    go_wp2
    go_ret2
    exact ⟨0, code, rfl, HNO.out.two _ _, hbel1⟩
  · obtain ⟨hl, hn6, hnl, x, y, rfl, rfl, hx, hy⟩ := h.nat
    have HOK := hide h
    have HL := hide (fun w' hb => HR.out x y w' hl hx hy hb)
    have hcode : code = 0 := h.zero
    subst hcode
    clear h hl hn6 hnl HC hx hy HR
    go_wp2_with fail
    refine (HL.out _ hbel1).mono ?_
    rintro e w4 ⟨rfl, hb4⟩
    have hbel4 := hbel1.trans (hb4.mono hbel1.size)
    clear hb4
    go_wp2
    go_ret2
    exact ⟨_, 0, rfl, HOK.out.two' _ _, hbel4⟩
set_option maxRecDepth 100000 in
set_option maxHeartbeats 4000000 in
theorem rMeet2_any (c : Cfg) (v : CfgV) (a b : Int) (w : World) (hok : CfgOk c) (hat : CfgAt w c v) :
    Calls Tryz.prog 89 #[.agg (cfgCells c v), .int .i64 a, .int .i64 b] w fun e w' => ∃ r code, e = .returned (.tuple #[.int .i64 r, .int .i64 code]) ∧ TwoIs c a b 0 (c.meet a b) r code ∧ Below w.heap.size w w' := by
  have HQ := hide (fun w' (hb : Below w.heap.size w w') => rtwo_any c v a b w' hok (hat.below hb))
  have HB0 := hide (below_box w (.cells (cfgCells c v) 31))
  have HX0 := hide (box_new w c v)
  have HR := hide (fun (x y : Nat) (w' : World) (hl : labelsB c = true) (hx : x < c.n) (hy : y < c.n) (hb : Below w.heap.size w w') => rmeet_any c v x y w' hl (hat.below hb) hx hy)
  clear hok hat
  unfold cfgCells at *
  go_enter Tryz.func89, Tryz.ntmps89
  go_wp2_with fail
  refine (HQ.out _ HB0.out).mono ?_
  rintro e w1 ⟨code, rfl, hc, hb1⟩
  have HC := hide hc
  have hbel1 := HB0.out.trans (hb1.mono (by simp))
  have HX1 := hide (HX0.out.below hb1 HX0.out.lt)
  obtain ⟨q0, q1, q2, q3⟩ := HX1.out.cells
  clear hb1 HB0 HQ hc
  rcases HC.out with h | h
  · have HNO := hide h
    have hcode : (code == 0) = false := by simpa using h.ne
    clear h
    go_wp2
    go_ret2
    exact ⟨0, code, rfl, HNO.out.two _ _, hbel1⟩
  · obtain ⟨hl, hn6, hnl, x, y, rfl, rfl, hx, hy⟩ := h.nat
    have HOK := hide h
    have HL := hide (fun w' hb => HR.out x y w' hl hx hy hb)
    have hcode : code = 0 := h.zero
    subst hcode
    clear h hl hn6 hnl HC hx hy HR
    go_wp2_with fail
    refine (HL.out _ hbel1).mono ?_
    rintro e w4 ⟨rfl, hb4⟩
    have hbel4 := hbel1.trans (hb4.mono hbel1.size)
    clear hb4
    go_wp2
    go_ret2
    exact ⟨_, 0, rfl, HOK.out.two' _ _, hbel4⟩
end Go.Proofs.YtgigkiocdiffjaaGreat
