/- veil.Leq, Join, Meet. -/
import Derived.Test.YtgigkiocdiffjaaGreatVeil1
namespace Go.Proofs.YtgigkiocdiffjaaGreat
open Go.RowKit Veil
theorem TwoOk.nat {c : Cfg} {a b k : Int} (h : TwoOk c a b k) : labelsB c = true ∧ c.n ≤ 6 ∧ ¬ c.noLat ∧ ∃ x y : Nat, a = x ∧ b = y ∧ x < c.n ∧ y < c.n := by
  obtain ⟨hl, _, hnl⟩ := h.check.right rfl
  obtain ⟨_, _, _, _, hn, hn6, _⟩ := labels_of hl
  obtain ⟨x, hx, hx'⟩ := okL_nat hn h.one
  obtain ⟨y, hy, hy'⟩ := okL_nat hn h.two
  exact ⟨hl, hn6, hnl, x, y, hx, hy, hx', hy'⟩
theorem join_pos {c : Cfg} (h : ¬ c.noLat) (x y : Nat) (hx : x < c.n) (hy : y < c.n) : posI (c.join x y) = c.join x y ∧ posI (c.meet x y) = c.meet x y := by
  have h1 : 0 ≤ c.join x y := Int.not_lt.1 fun h' => h ⟨x, y, hx, hy, Or.inl h'⟩
  have h2 : 0 ≤ c.meet x y := Int.not_lt.1 fun h' => h ⟨x, y, hx, hy, Or.inr h'⟩
  exact ⟨if_pos h1, if_pos h2⟩
set_option maxRecDepth 100000 in
set_option maxHeartbeats 4000000 in
theorem vLeq_any (c : Cfg) (v : CfgV) (a b : Int) (w : World) (hok : CfgOk c) (hat : CfgAt w c v) (hcap : c.rules.length ≤ v.rc) :
    Calls Tryz.prog 84 #[.agg (cfgCells c v), .int .i64 a, .int .i64 b] w fun e w' => ∃ r code, e = .returned (.tuple #[.bool r, .int .i64 code]) ∧ TwoIs c a b false (c.le a b) r code ∧ Below w.heap.size w w' := by
  have HQ := hide (fun w' (hb : Below w.heap.size w w') => orderOf_any c v a b w' hok (hat.below hb) hcap)
  have HB0 := hide (below_box w (.cells (cfgCells c v) 31))
  clear hok hat hcap
  unfold cfgCells at *
  go_enter Tryz.func84, Tryz.ntmps84
  go_wp2_with fail
  refine (HQ.out _ HB0.out).mono ?_
  rintro e w1 ⟨code, L, f, rfl, hc, hb1⟩
  have HC := hide hc
  have hbel1 := HB0.out.trans (hb1.mono (by simp))
  have HN := hide (Go.heap_alloc_new w1 (.cells (ordC 0 noF) 105))
  have i2 : rowIs (w1.alloc (.cells (ordC 0 noF) 105)) w1.heap.size 37 := ⟨_, _, HN.out, ordC_size _ _⟩
  have HO3 : Hid (OrdAt ((w1.alloc (.cells (ordC 0 noF) 105)).setRow w1.heap.size (ordC L f)) w1.heap.size L f) := setRow_heap _ _ _ (ordC L f) _ _ HN.out
  have hbel3 : Below w.heap.size w ((w1.alloc (.cells (ordC 0 noF) 105)).setRow w1.heap.size (ordC L f)) := below_setRow (hbel1.alloc hbel1.size _) hbel1.size _
  have i3 := HO3.out.is
  have a3 := HO3.out.at
  clear hb1 HB0 HQ hc
  rcases HC.out with h | ⟨h, hL, hf⟩
  · have HNO := hide h
    have hcode : (code == 0) = false := by simpa using h.ne
    clear h
    go_wp2_with (refine wpList_alloc_ord rfl rfl ?_)
    go_ret2
    exact ⟨false, code, rfl, HNO.out.two _ _, hbel3⟩
  · obtain ⟨hl, hn6, hnl, x, y, rfl, rfl, hx, hy⟩ := h.nat
    have HOK := hide h
    have HL : Hid (∀ w', Calls Tryz.prog 113 #[.agg (ordC L f), .int .i64 x, .int .i64 y] w' fun e w'' => e = .returned (.bool (c.le x y)) ∧ Below w'.heap.size w' w'') := fun w' => by
      have := oleq_any c.n (tT c) x y w' hn6
      rw [leO_le hl x y hx hy] at this
      rw [hL, hf]
      exact this
    have hcode : code = 0 := h.zero
    subst hcode
    clear h hl hn6 hnl hL hf HC hx hy
    go_wp2_with (refine wpList_alloc_ord rfl rfl ?_)
    refine (HL.out _).mono ?_
    rintro e w4 ⟨rfl, hb4⟩
    have hbel4 := hbel3.trans (hb4.mono hbel3.size)
    clear hb4 i3 a3 i2
    go_wp2
    go_ret2
    exact ⟨_, 0, rfl, HOK.out.two' _ _, hbel4⟩
set_option maxRecDepth 100000 in
set_option maxHeartbeats 4000000 in
theorem vJoin_any (c : Cfg) (v : CfgV) (a b : Int) (w : World) (hok : CfgOk c) (hat : CfgAt w c v) (hcap : c.rules.length ≤ v.rc) :
    Calls Tryz.prog 86 #[.agg (cfgCells c v), .int .i64 a, .int .i64 b] w fun e w' => ∃ r code, e = .returned (.tuple #[.int .i64 r, .int .i64 code]) ∧ TwoIs c a b 0 (c.join a b) r code ∧ Below w.heap.size w w' := by
  have HQ := hide (fun w' (hb : Below w.heap.size w w') => orderOf_any c v a b w' hok (hat.below hb) hcap)
  have HB0 := hide (below_box w (.cells (cfgCells c v) 31))
  clear hok hat hcap
  unfold cfgCells at *
  go_enter Tryz.func86, Tryz.ntmps86
  go_wp2_with fail
  refine (HQ.out _ HB0.out).mono ?_
  rintro e w1 ⟨code, L, f, rfl, hc, hb1⟩
  have HC := hide hc
  have hbel1 := HB0.out.trans (hb1.mono (by simp))
  have HN := hide (Go.heap_alloc_new w1 (.cells (ordC 0 noF) 105))
  have i2 : rowIs (w1.alloc (.cells (ordC 0 noF) 105)) w1.heap.size 37 := ⟨_, _, HN.out, ordC_size _ _⟩
  have HO3 : Hid (OrdAt ((w1.alloc (.cells (ordC 0 noF) 105)).setRow w1.heap.size (ordC L f)) w1.heap.size L f) := setRow_heap _ _ _ (ordC L f) _ _ HN.out
  have hbel3 : Below w.heap.size w ((w1.alloc (.cells (ordC 0 noF) 105)).setRow w1.heap.size (ordC L f)) := below_setRow (hbel1.alloc hbel1.size _) hbel1.size _
  have i3 := HO3.out.is
  have a3 := HO3.out.at
  clear hb1 HB0 HQ hc
  rcases HC.out with h | ⟨h, hL, hf⟩
  · have HNO := hide h
    have hcode : (code == 0) = false := by simpa using h.ne
    clear h
    go_wp2_with (refine wpList_alloc_ord rfl rfl ?_)
    go_ret2
    exact ⟨0, code, rfl, HNO.out.two _ _, hbel3⟩
  · obtain ⟨hl, hn6, hnl, x, y, rfl, rfl, hx, hy⟩ := h.nat
    have HOK := hide h
    have HL : Hid (∀ w', Calls Tryz.prog 130 #[.agg (ordC L f), .int .i64 x, .int .i64 y] w' fun e w'' => e = .returned (.int .i64 (c.join x y)) ∧ Below w'.heap.size w' w'') := fun w' => by
      have := oJoin_any c.n (tT c) x y w' hn6
      rw [leastO_join hl x y hx hy, (join_pos hnl x y hx hy).1] at this
      rw [hL, hf]
      exact this
    have hcode : code = 0 := h.zero
    subst hcode
    clear h hl hn6 hnl hL hf HC hx hy
    go_wp2_with (refine wpList_alloc_ord rfl rfl ?_)
    refine (HL.out _).mono ?_
    rintro e w4 ⟨rfl, hb4⟩
    have hbel4 := hbel3.trans (hb4.mono hbel3.size)
    clear hb4 i3 a3 i2
    go_wp2
    go_ret2
    exact ⟨_, 0, rfl, HOK.out.two' _ _, hbel4⟩
set_option maxRecDepth 100000 in
set_option maxHeartbeats 4000000 in
theorem vMeet_any (c : Cfg) (v : CfgV) (a b : Int) (w : World) (hok : CfgOk c) (hat : CfgAt w c v) (hcap : c.rules.length ≤ v.rc) :
    Calls Tryz.prog 88 #[.agg (cfgCells c v), .int .i64 a, .int .i64 b] w fun e w' => ∃ r code, e = .returned (.tuple #[.int .i64 r, .int .i64 code]) ∧ TwoIs c a b 0 (c.meet a b) r code ∧ Below w.heap.size w w' := by
  have HQ := hide (fun w' (hb : Below w.heap.size w w') => orderOf_any c v a b w' hok (hat.below hb) hcap)
  have HB0 := hide (below_box w (.cells (cfgCells c v) 31))
  clear hok hat hcap
  unfold cfgCells at *
  go_enter Tryz.func88, Tryz.ntmps88
  go_wp2_with fail
  refine (HQ.out _ HB0.out).mono ?_
  rintro e w1 ⟨code, L, f, rfl, hc, hb1⟩
  have HC := hide hc
  have hbel1 := HB0.out.trans (hb1.mono (by simp))
  have HN := hide (Go.heap_alloc_new w1 (.cells (ordC 0 noF) 105))
  have i2 : rowIs (w1.alloc (.cells (ordC 0 noF) 105)) w1.heap.size 37 := ⟨_, _, HN.out, ordC_size _ _⟩
  have HO3 : Hid (OrdAt ((w1.alloc (.cells (ordC 0 noF) 105)).setRow w1.heap.size (ordC L f)) w1.heap.size L f) := setRow_heap _ _ _ (ordC L f) _ _ HN.out
  have hbel3 : Below w.heap.size w ((w1.alloc (.cells (ordC 0 noF) 105)).setRow w1.heap.size (ordC L f)) := below_setRow (hbel1.alloc hbel1.size _) hbel1.size _
  have i3 := HO3.out.is
  have a3 := HO3.out.at
  clear hb1 HB0 HQ hc
  rcases HC.out with h | ⟨h, hL, hf⟩
  · have HNO := hide h
    have hcode : (code == 0) = false := by simpa using h.ne
    clear h
    go_wp2_with (refine wpList_alloc_ord rfl rfl ?_)
    go_ret2
    exact ⟨0, code, rfl, HNO.out.two _ _, hbel3⟩
  · obtain ⟨hl, hn6, hnl, x, y, rfl, rfl, hx, hy⟩ := h.nat
    have HOK := hide h
    have HL : Hid (∀ w', Calls Tryz.prog 131 #[.agg (ordC L f), .int .i64 x, .int .i64 y] w' fun e w'' => e = .returned (.int .i64 (c.meet x y)) ∧ Below w'.heap.size w' w'') := fun w' => by
      have := oMeet_any c.n (tT c) x y w' hn6
      rw [show leastO c.n (turnF c.n (tT c) c.n 0) x y = c.meet x y from leastO_meet hl x y hx hy, (join_pos hnl x y hx hy).2] at this
      rw [hL, hf]
      exact this
    have hcode : code = 0 := h.zero
    subst hcode
    clear h hl hn6 hnl hL hf HC hx hy
    go_wp2_with (refine wpList_alloc_ord rfl rfl ?_)
    refine (HL.out _).mono ?_
    rintro e w4 ⟨rfl, hb4⟩
    have hbel4 := hbel3.trans (hb4.mono hbel3.size)
    clear hb4 i3 a3 i2
    go_wp2
    go_ret2
    exact ⟨_, 0, rfl, HOK.out.two' _ _, hbel4⟩
end Go.Proofs.YtgigkiocdiffjaaGreat
