/- veil.Leq, Join, Meet; veilref.two, Leq, Join, Meet. -/
import Derived.Test.YtemdekpfffhohaaGreatVeil1
namespace Go.Proofs.YtemdekpfffhohaaGreat
open Go.RowKit Veil
theorem TwoOk.nat {c : Cfg} {a b k : Int} (h : TwoOk c a b k) : labelsB c = true ∧ c.n ≤ 6 ∧ ¬ c.noLat ∧ ∃ x y : Nat, a = x ∧ b = y ∧ x < c.n ∧ y < c.n := by
  obtain ⟨hl, _, hnl⟩ := h.check.right rfl
  obtain ⟨_, _, _, _, hn, hn6, _⟩ := labels_of hl
  obtain ⟨x, hx, hx'⟩ := okL_nat hn h.one
  obtain ⟨y, hy, hy'⟩ := okL_nat hn h.two
  exact ⟨hl, hn6, hnl, x, y, hx, hy, hx', hy'⟩
theorem join_pos {c : Cfg} (h : ¬ c.noLat) (x y : Nat) (hx : x < c.n) (hy : y < c.n) : posI (c.join x y) = c.join x y ∧ posI (c.meet x y) = c.meet x y := by
  have h1 : 0 ≤ c.join x y := Int.not_lt.1 fun h' => h ⟨x, y, hx, hy, Or.inl h'⟩
  have h2 : 0 ≤ c.meet x y := Int.not_lt.1 fun h' => h ⟨x, y, hx, hy, Or.inr h'⟩
  exact ⟨if_pos h1, if_pos h2⟩
set_option maxRecDepth 100000 in
set_option maxHeartbeats 4000000 in
theorem vLeq_any (c : Cfg) (v : CfgV) (a b : Int) (w : World) (hok : CfgOk c) (hat : CfgAt w c v) (hcap : c.rules.length ≤ v.rc) :
    Calls Tryz.prog 34 #[.agg (cfgCells c v), .int .i64 a, .int .i64 b] w fun e w' => ∃ r code, e = .returned (.tuple #[.bool r, .int .i64 code]) ∧ TwoIs c a b false (c.le a b) r code ∧ Below w.heap.size w w' := by
  have HQ := hide (fun w' (hb : Below w.heap.size w w') => orderOf_any c v a b w' hok (hat.below hb) hcap)
  have HB0 := hide (below_box w (.cells (cfgCells c v) 46))
  clear hok hat hcap
  unfold cfgCells at *
  go_enter Tryz.func34, Tryz.ntmps34
  go_wp2_with fail
  refine (HQ.out _ HB0.out).mono ?_
  rintro e w1 ⟨code, L, f, rfl, hc, hb1⟩
  have HC := hide hc
  have hbel1 := HB0.out.trans (hb1.mono (by simp))
  have HN := hide (Go.heap_alloc_new w1 (.cells (ordC 0 noF) 102))
  have i2 : rowIs (w1.alloc (.cells (ordC 0 noF) 102)) w1.heap.size 37 := ⟨_, _, HN.out, ordC_size _ _⟩
  have HO3 : Hid (OrdAt ((w1.alloc (.cells (ordC 0 noF) 102)).setRow w1.heap.size (ordC L f)) w1.heap.size L f) := setRow_heap _ _ _ (ordC L f) _ _ HN.out
  have hbel3 : Below w.heap.size w ((w1.alloc (.cells (ordC 0 noF) 102)).setRow w1.heap.size (ordC L f)) := below_setRow (hbel1.alloc hbel1.size _) hbel1.size _
  have i3 := HO3.out.is
  have a3 := HO3.out.at
  clear hb1 HB0 HQ hc
  rcases HC.out with h | ⟨h, hL, hf⟩
  · have HNO := hide h
    have hcode : (code == 0) = false := by simpa using h.ne
    clear h
    go_wp2_with (refine wpList_alloc_ord rfl rfl ?_)
    go_ret2
    exact ⟨false, code, rfl, HNO.out.two _ _, hbel3⟩
  · obtain ⟨hl, hn6, hnl, x, y, rfl, rfl, hx, hy⟩ := h.nat
    have HOK := hide h
    have HL : Hid (∀ w', Calls Tryz.prog 65 #[.agg (ordC L f), .int .i64 x, .int .i64 y] w' fun e w'' => e = .returned (.bool (c.le x y)) ∧ Below w'.heap.size w' w'') := fun w' => by
      have := oleq_any c.n (tT c) x y w' hn6
      rw [leO_le hl x y hx hy] at this
      rw [hL, hf]
      exact this
    have hcode : code = 0 := h.zero
    subst hcode
    clear h hl hn6 hnl hL hf HC hx hy
    go_wp2_with (refine wpList_alloc_ord rfl rfl ?_)
    refine (HL.out _).mono ?_
    rintro e w4 ⟨rfl, hb4⟩
    have hbel4 := hbel3.trans (hb4.mono hbel3.size)
    clear hb4 i3 a3 i2
    go_wp2
    go_ret2
    exact ⟨_, 0, rfl, HOK.out.two' _ _, hbel4⟩
set_option maxRecDepth 100000 in
set_option maxHeartbeats 4000000 in
theorem vJoin_any (c : Cfg) (v : CfgV) (a b : Int) (w : World) (hok : CfgOk c) (hat : CfgAt w c v) (hcap : c.rules.length ≤ v.rc) :
    Calls Tryz.prog 36 #[.agg (cfgCells c v), .int .i64 a, .int .i64 b] w fun e w' => ∃ r code, e = .returned (.tuple #[.int .i64 r, .int .i64 code]) ∧ TwoIs c a b 0 (c.join a b) r code ∧ Below w.heap.size w w' := by
  have HQ := hide (fun w' (hb : Below w.heap.size w w') => orderOf_any c v a b w' hok (hat.below hb) hcap)
  have HB0 := hide (below_box w (.cells (cfgCells c v) 46))
  clear hok hat hcap
  unfold cfgCells at *
  go_enter Tryz.func36, Tryz.ntmps36
  go_wp2_with fail
  refine (HQ.out _ HB0.out).mono ?_
  rintro e w1 ⟨code, L, f, rfl, hc, hb1⟩
  have HC := hide hc
  have hbel1 := HB0.out.trans (hb1.mono (by simp))
  have HN := hide (Go.heap_alloc_new w1 (.cells (ordC 0 noF) 102))
  have i2 : rowIs (w1.alloc (.cells (ordC 0 noF) 102)) w1.heap.size 37 := ⟨_, _, HN.out, ordC_size _ _⟩
  have HO3 : Hid (OrdAt ((w1.alloc (.cells (ordC 0 noF) 102)).setRow w1.heap.size (ordC L f)) w1.heap.size L f) := setRow_heap _ _ _ (ordC L f) _ _ HN.out
  have hbel3 : Below w.heap.size w ((w1.alloc (.cells (ordC 0 noF) 102)).setRow w1.heap.size (ordC L f)) := below_setRow (hbel1.alloc hbel1.size _) hbel1.size _
  have i3 := HO3.out.is
  have a3 := HO3.out.at
  clear hb1 HB0 HQ hc
  rcases HC.out with h | ⟨h, hL, hf⟩
  · have HNO := hide h
    have hcode : (code == 0) = false := by simpa using h.ne
    clear h
    go_wp2_with (refine wpList_alloc_ord rfl rfl ?_)
    go_ret2
    exact ⟨0, code, rfl, HNO.out.two _ _, hbel3⟩
  · obtain ⟨hl, hn6, hnl, x, y, rfl, rfl, hx, hy⟩ := h.nat
    have HOK := hide h
    have HL : Hid (∀ w', Calls Tryz.prog 67 #[.agg (ordC L f), .int .i64 x, .int .i64 y] w' fun e w'' => e = .returned (.int .i64 (c.join x y)) ∧ Below w'.heap.size w' w'') := fun w' => by
      have := oJoin_any c.n (tT c) x y w' hn6
      rw [leastO_join hl x y hx hy, (join_pos hnl x y hx hy).1] at this
      rw [hL, hf]
      exact this
    have hcode : code = 0 := h.zero
    subst hcode
    clear h hl hn6 hnl hL hf HC hx hy
    go_wp2_with (refine wpList_alloc_ord rfl rfl ?_)
    refine (HL.out _).mono ?_
    rintro e w4 ⟨rfl, hb4⟩
    have hbel4 := hbel3.trans (hb4.mono hbel3.size)
    clear hb4 i3 a3 i2
    go_wp2
    go_ret2
    exact ⟨_, 0, rfl, HOK.out.two' _ _, hbel4⟩
set_option maxRecDepth 100000 in
set_option maxHeartbeats 4000000 in
theorem vMeet_any (c : Cfg) (v : CfgV) (a b : Int) (w : World) (hok : CfgOk c) (hat : CfgAt w c v) (hcap : c.rules.length ≤ v.rc) :
    Calls Tryz.prog 38 #[.agg (cfgCells c v), .int .i64 a, .int .i64 b] w fun e w' => ∃ r code, e = .returned (.tuple #[.int .i64 r, .int .i64 code]) ∧ TwoIs c a b 0 (c.meet a b) r code ∧ Below w.heap.size w w' := by
  have HQ := hide (fun w' (hb : Below w.heap.size w w') => orderOf_any c v a b w' hok (hat.below hb) hcap)
  have HB0 := hide (below_box w (.cells (cfgCells c v) 46))
  clear hok hat hcap
  unfold cfgCells at *
  go_enter Tryz.func38, Tryz.ntmps38
  go_wp2_with fail
  refine (HQ.out _ HB0.out).mono ?_
  rintro e w1 ⟨code, L, f, rfl, hc, hb1⟩
  have HC := hide hc
  have hbel1 := HB0.out.trans (hb1.mono (by simp))
  have HN := hide (Go.heap_alloc_new w1 (.cells (ordC 0 noF) 102))
  have i2 : rowIs (w1.alloc (.cells (ordC 0 noF) 102)) w1.heap.size 37 := ⟨_, _, HN.out, ordC_size _ _⟩
  have HO3 : Hid (OrdAt ((w1.alloc (.cells (ordC 0 noF) 102)).setRow w1.heap.size (ordC L f)) w1.heap.size L f) := setRow_heap _ _ _ (ordC L f) _ _ HN.out
  have hbel3 : Below w.heap.size w ((w1.alloc (.cells (ordC 0 noF) 102)).setRow w1.heap.size (ordC L f)) := below_setRow (hbel1.alloc hbel1.size _) hbel1.size _
  have i3 := HO3.out.is
  have a3 := HO3.out.at
  clear hb1 HB0 HQ hc
  rcases HC.out with h | ⟨h, hL, hf⟩
  · have HNO := hide h
    have hcode : (code == 0) = false := by simpa using h.ne
    clear h
    go_wp2_with (refine wpList_alloc_ord rfl rfl ?_)
    go_ret2
    exact ⟨0, code, rfl, HNO.out.two _ _, hbel3⟩
  · obtain ⟨hl, hn6, hnl, x, y, rfl, rfl, hx, hy⟩ := h.nat
    have HOK := hide h
    have HL : Hid (∀ w', Calls Tryz.prog 68 #[.agg (ordC L f), .int .i64 x, .int .i64 y] w' fun e w'' => e = .returned (.int .i64 (c.meet x y)) ∧ Below w'.heap.size w' w'') := fun w' => by
      have := oMeet_any c.n (tT c) x y w' hn6
      rw [show leastO c.n (turnF c.n (tT c) c.n 0) x y = c.meet x y from leastO_meet hl x y hx hy, (join_pos hnl x y hx hy).2] at this
      rw [hL, hf]
      exact this
    have hcode : code = 0 := h.zero
    subst hcode
    clear h hl hn6 hnl hL hf HC hx hy
    go_wp2_with (refine wpList_alloc_ord rfl rfl ?_)
    refine (HL.out _).mono ?_
    rintro e w4 ⟨rfl, hb4⟩
    have hbel4 := hbel3.trans (hb4.mono hbel3.size)
    clear hb4 i3 a3 i2
    go_wp2
    go_ret2
    exact ⟨_, 0, rfl, HOK.out.two' _ _, hbel4⟩
set_option maxRecDepth 100000 in
set_option maxHeartbeats 4000000 in
theorem rtwo_any (c : Cfg) (v : CfgV) (a b : Int) (w : World) (hok : CfgOk c) (hat : CfgAt w c v) :
    Calls Tryz.prog 66 #[.agg (cfgCells c v), .int .i64 a, .int .i64 b] w fun e w' => ∃ code, e = .returned (.int .i64 code) ∧ (TwoNo c a b code ∨ TwoOk c a b code) ∧ Below w.heap.size w w' := by
  have HQ := hide (fun w' (hb : Below w.heap.size w w') => rCheck_any c v w' hok (hat.below hb))
  have HB0 := hide (below_box w (.cells (cfgCells c v) 46))
  have HX0 := hide (box_new w c v)
  have HHA := hide (fun (x : Int) (w' : World) => rlabel_any c v x w')
  clear hok hat
  unfold cfgCells at *
  go_enter Tryz.func66, Tryz.ntmps66
  go_wp2_with fail
  refine (HQ.out _ HB0.out).mono ?_
  rintro e w1 ⟨code, rfl, hc, hb1⟩
  have HC := hide hc
  have hbel1 := HB0.out.trans (hb1.mono (by simp))
  have HX1 := hide (HX0.out.below hb1 HX0.out.lt)
  obtain ⟨q0, q1, q2, q3⟩ := HX1.out.cells
  clear hb1 HB0 HQ hc HX0
  cases hcode : (code == 0)
  · have hne : Hid (code ≠ 0) := (show code ≠ 0 by simpa using hcode)
    go_wp2
    go_ret
    exact ⟨code, rfl, Or.inl ⟨hne.out, code, HC.out, fun _ => rfl, fun h => absurd h hne.out⟩, hbel1⟩
  obtain rfl : code = 0 := by simpa using hcode
  clear hcode
  cases g1 : okL c.labels a
  · have G1 := hide g1
    clear g1
    go_wp2_with fail
    refine (HHA.out a _).mono ?_
    rintro e w4 ⟨rfl, hb4⟩
    rw [G1.out]
    have hbel4 := hbel1.trans (hb4.mono hbel1.size)
    clear hb4
    go_wp2
    go_ret
    exact ⟨6, rfl, Or.inl ⟨by decide, 0, HC.out, fun h => absurd rfl h, fun _ => ⟨by rw [G1.out]; rfl, rfl⟩⟩, hbel4⟩
  have G1 := hide g1
  clear g1
  go_wp2_with fail
  refine (HHA.out a _).mono ?_
  rintro e w4 ⟨rfl, hb4⟩
  rw [G1.out]
  have hbel4 := hbel1.trans (hb4.mono hbel1.size)
  have HX4 := hide (HX1.out.below hb4 HX1.out.lt)
  clear q0 q1 q2 q3 hb4
  obtain ⟨q0, q1, q2, q3⟩ := HX4.out.cells
  go_wp2_with fail
  refine (HHA.out b _).mono ?_
  rintro e w5 ⟨rfl, hb5⟩
  have hbel5 := hbel4.trans (hb5.mono hbel4.size)
  clear q0 q1 q2 q3 hb5
  cases g2 : okL c.labels b
  · have G2 := hide g2
    clear g2
    go_wp2
    go_ret
    exact ⟨6, rfl, Or.inl ⟨by decide, 0, HC.out, fun h => absurd rfl h, fun _ => ⟨by rw [G2.out]; simp, rfl⟩⟩, hbel5⟩
  · have G2 := hide g2
    clear g2
    go_wp2
    go_ret
    exact ⟨0, rfl, Or.inr ⟨HC.out, rfl, G1.out, G2.out⟩, hbel5⟩
set_option maxRecDepth 100000 in
set_option maxHeartbeats 4000000 in
theorem rLeq2_any (c : Cfg) (v : CfgV) (a b : Int) (w : World) (hok : CfgOk c) (hat : CfgAt w c v) :
    Calls Tryz.prog 35 #[.agg (cfgCells c v), .int .i64 a, .int .i64 b] w fun e w' => ∃ r code, e = .returned (.tuple #[.bool r, .int .i64 code]) ∧ TwoIs c a b false (c.le a b) r code ∧ Below w.heap.size w w' := by
  have HQ := hide (fun w' (hb : Below w.heap.size w w') => rtwo_any c v a b w' hok (hat.below hb))
  have HB0 := hide (below_box w (.cells (cfgCells c v) 46))
  have HX0 := hide (box_new w c v)
  have HR := hide (fun (x y : Nat) (w' : World) (hl : labelsB c = true) (hx : x < c.n) (hy : y < c.n) (hb : Below w.heap.size w w') => rleq_any c v x y w' hl (hat.below hb) hx hy)
  clear hok hat
  unfold cfgCells at *
  go_enter Tryz.func35, Tryz.ntmps35
  go_wp2_with fail
  refine (HQ.out _ HB0.out).mono ?_
  rintro e w1 ⟨code, rfl, hc, hb1⟩
  have HC := hide hc
  have hbel1 := HB0.out.trans (hb1.mono (by simp))
  have HX1 := hide (HX0.out.below hb1 HX0.out.lt)
  obtain ⟨q0, q1, q2, q3⟩ := HX1.out.cells
  clear hb1 HB0 HQ hc
  rcases HC.out with h | h
  · have HNO := hide h
    have hcode : (code == 0) = false := by simpa using h.ne
    clear h
    go_wp2
    go_ret2
    exact ⟨false, code, rfl, HNO.out.two _ _, hbel1⟩
  · obtain ⟨hl, hn6, hnl, x, y, rfl, rfl, hx, hy⟩ := h.nat
    have HOK := hide h
    have HL := hide (fun w' hb => HR.out x y w' hl hx hy hb)
    have hcode : code = 0 := h.zero
    subst hcode
    clear h hl hn6 hnl HC hx hy HR
    go_wp2_with fail
    refine (HL.out _ hbel1).mono ?_
    rintro e w4 ⟨rfl, hb4⟩
    have hbel4 := hbel1.trans (hb4.mono hbel1.size)
    clear hb4
    go_wp2
    go_ret2
    exact ⟨_, 0, rfl, HOK.out.two' _ _, hbel4⟩
set_option maxRecDepth 100000 in
set_option maxHeartbeats 4000000 in
theorem rJoin2_any (c : Cfg) (v : CfgV) (a b : Int) (w : World) (hok : CfgOk c) (hat : CfgAt w c v) :
    Calls Tryz.prog 37 #[.agg (cfgCells c v), .int .i64 a, .int .i64 b] w fun e w' => ∃ r code, e = .returned (.tuple #[.int .i64 r, .int .i64 code]) ∧ TwoIs c a b 0 (c.join a b) r code ∧ Below w.heap.size w w' := by
  have HQ := hide (fun w' (hb : Below w.heap.size w w') => rtwo_any c v a b w' hok (hat.below hb))
  have HB0 := hide (below_box w (.cells (cfgCells c v) 46))
  have HX0 := hide (box_new w c v)
  have HR := hide (fun (x y : Nat) (w' : World) (hl : labelsB c = true) (hx : x < c.n) (hy : y < c.n) (hb : Below w.heap.size w w') => rjoin_any c v x y w' hl (hat.below hb) hx hy)
  clear hok hat
  unfold cfgCells at *
  go_enter Tryz.func37, Tryz.ntmps37
  go_wp2_with fail
  refine (HQ.out _ HB0.out).mono ?_
  rintro e w1 ⟨code, rfl, hc, hb1⟩
  have HC := hide hc
  have hbel1 := HB0.out.trans (hb1.mono (by simp))
  have HX1 := hide (HX0.out.below hb1 HX0.out.lt)
  obtain ⟨q0, q1, q2, q3⟩ := HX1.out.cells
  clear hb1 HB0 HQ hc
  rcases HC.out with h | h
  · have HNO := hide h
    have hcode : (code == 0) = false := by simpa using h.ne
    clear h
    go_wp2
    go_ret2
    exact ⟨0, code, rfl, HNO.out.two _ _, hbel1⟩
  · obtain ⟨hl, hn6, hnl, x, y, rfl, rfl, hx, hy⟩ := h.nat
    have HOK := hide h
    have HL := hide (fun w' hb => HR.out x y w' hl hx hy hb)
    have hcode : code = 0 := h.zero
    subst hcode
    clear h hl hn6 hnl HC hx hy HR
    go_wp2_with fail
    refine (HL.out _ hbel1).mono ?_
    rintro e w4 ⟨rfl, hb4⟩
    have hbel4 := hbel1.trans (hb4.mono hbel1.size)
    clear hb4
    go_wp2
    go_ret2
    exact ⟨_, 0, rfl, HOK.out.two' _ _, hbel4⟩
set_option maxRecDepth 100000 in
set_option maxHeartbeats 4000000 in
theorem rMeet2_any (c : Cfg) (v : CfgV) (a b : Int) (w : World) (hok : CfgOk c) (hat : CfgAt w c v) :
    Calls Tryz.prog 39 #[.agg (cfgCells c v), .int .i64 a, .int .i64 b] w fun e w' => ∃ r code, e = .returned (.tuple #[.int .i64 r, .int .i64 code]) ∧ TwoIs c a b 0 (c.meet a b) r code ∧ Below w.heap.size w w' := by
  have HQ := hide (fun w' (hb : Below w.heap.size w w') => rtwo_any c v a b w' hok (hat.below hb))
  have HB0 := hide (below_box w (.cells (cfgCells c v) 46))
  have HX0 := hide (box_new w c v)
  have HR := hide (fun (x y : Nat) (w' : World) (hl : labelsB c = true) (hx : x < c.n) (hy : y < c.n) (hb : Below w.heap.size w w') => rmeet_any c v x y w' hl (hat.below hb) hx hy)
  clear hok hat
  unfold cfgCells at *
  go_enter Tryz.func39, Tryz.ntmps39
  go_wp2_with fail
  refine (HQ.out _ HB0.out).mono ?_
  rintro e w1 ⟨code, rfl, hc, hb1⟩
  have HC := hide hc
  have hbel1 := HB0.out.trans (hb1.mono (by simp))
  have HX1 := hide (HX0.out.below hb1 HX0.out.lt)
  obtain ⟨q0, q1, q2, q3⟩ := HX1.out.cells
  clear hb1 HB0 HQ hc
  rcases HC.out with h | h
  · have HNO := hide h
    have hcode : (code == 0) = false := by simpa using h.ne
    clear h
    go_wp2
    go_ret2
    exact ⟨0, code, rfl, HNO.out.two _ _, hbel1⟩
  · obtain ⟨hl, hn6, hnl, x, y, rfl, rfl, hx, hy⟩ := h.nat
    have HOK := hide h
    have HL := hide (fun w' hb => HR.out x y w' hl hx hy hb)
    have hcode : code = 0 := h.zero
    subst hcode
    clear h hl hn6 hnl HC hx hy HR
    go_wp2_with fail
    refine (HL.out _ hbel1).mono ?_
    rintro e w4 ⟨rfl, hb4⟩
    have hbel4 := hbel1.trans (hb4.mono hbel1.size)
    clear hb4
    go_wp2
    go_ret2
    exact ⟨_, 0, rfl, HOK.out.two' _ _, hbel4⟩
end Go.Proofs.YtemdekpfffhohaaGreat
