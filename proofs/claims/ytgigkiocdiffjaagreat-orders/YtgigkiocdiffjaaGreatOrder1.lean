/- order.Order: its table, by value; inRange, Has, Leq, isAbove, isBelowAllAbove, leastAbove. -/
import Derived.Test.YtgigkiocdiffjaaGreatRcheck
import Derived.Test.YtgigkiocdiffjaaGreatRowkit2
namespace Go.Proofs.YtgigkiocdiffjaaGreat
open Go.RowKit Veil
/-- An order's cells. -/
def ordC (L : Int) (f : Nat → Nat → Bool) : Array Value := (Value.int .i64 L :: (List.range 36).map fun i => Value.bool (f (i / 6) (i % 6))).toArray
theorem ordC_size (L : Int) (f : Nat → Nat → Bool) : (ordC L f).size = 37 := by simp [ordC]
theorem ordC_zero (L : Int) (f : Nat → Nat → Bool) : (ordC L f)[0]? = some (.int .i64 L) := by simp [ordC]
theorem ordC_get (L : Int) (f : Nat → Nat → Bool) (a b : Nat) (ha : a < 6) (hb : b < 6) : (ordC L f)[1 + a * 6 + b]? = some (.bool (f a b)) := by
  have e : 1 + a * 6 + b = (a * 6 + b) + 1 := by omega
  have h1 : (a * 6 + b) / 6 = a := by omega
  have h2 : (a * 6 + b) % 6 = b := by omega
  have hlt : a * 6 + b < 36 := by omega
  rw [e]
  simp [ordC, h1, h2, hlt]
theorem ordC_congr (L : Int) (f g : Nat → Nat → Bool) (h : ∀ a b, a < 6 → b < 6 → f a b = g a b) : ordC L f = ordC L g := by
  unfold ordC
  congr 2
  apply List.map_congr_left
  intro i hi
  have : i < 36 := by simpa using hi
  rw [h _ _ (by omega) (by omega)]
theorem ordC_set (L : Int) (f : Nat → Nat → Bool) (a b : Nat) (x : Bool) (ha : a < 6) (hb : b < 6) : (ordC L f).setIfInBounds (1 + a * 6 + b) (.bool x) = ordC L (fun i j => if i = a ∧ j = b then x else f i j) := by
  apply Array.ext_getElem?
  intro i
  rw [Array.getElem?_setIfInBounds]
  by_cases hi : i < 37
  · match i, hi with
    | 0, _ => rw [if_neg (by omega), ordC_zero, ordC_zero]
    | i + 1, hi =>
      have e : i + 1 = 1 + (i / 6) * 6 + i % 6 := by omega
      rw [e, ordC_get _ _ _ _ (by omega) (by omega), ordC_get _ _ _ _ (by omega) (by omega), ordC_size]
      by_cases h : i / 6 = a ∧ i % 6 = b
      · rw [if_pos (by omega), if_pos (by omega), if_pos h]
      · rw [if_neg (by omega), if_neg h]
  · rw [if_neg (by omega), Array.getElem?_eq_none (by rw [ordC_size]; omega), Array.getElem?_eq_none (by rw [ordC_size]; omega)]
theorem ordC_one (L : Int) (f : Nat → Nat → Bool) : (ordC L f).all (·.oneCell') = true := by
  simp [ordC, Value.oneCell']
theorem ordC_ok (L : Int) (f : Nat → Nat → Bool) : okRow (ordC L f) 37 := ⟨ordC_size L f, ordC_one L f⟩
theorem Tryz.sizeOrder : (Tryz.prog.info? 105).map (·.size) = some 37 := by kernel_rfl
@[go_sem] def rowN2 (t : TypeId) : Nat := if t = 105 then 37 else 0
theorem rowN2_ok : RowsOk Tryz.prog rowN2 := by
  refine ⟨rfl, fun ty h => ?_⟩
  unfold rowN2 at *
  split at h
  · subst_vars; exact ⟨_, Tryz.underlying105, rfl, Tryz.sizeOrder⟩
  · exact absurd rfl h
@[go_sem ↓] theorem rows_order : RowLaw2 Tryz.prog rowN2 := row_law2 rowN2_ok
/-- An order in a box. -/
def OrdAt (w : World) (g : Nat) (L : Int) (f : Nat → Nat → Bool) : Prop := w.heap[g]? = some (.cells (ordC L f) 105 (0, 0))
theorem OrdAt.below {w w' : World} {g B : Nat} {L : Int} {f : Nat → Nat → Bool} (h : OrdAt w g L f) (hb : Below B w w') (hg : g < B) : OrdAt w' g L f := Below.row hb h hg
theorem OrdAt.lt {w : World} {g : Nat} {L : Int} {f : Nat → Nat → Bool} (h : OrdAt w g L f) : g < w.heap.size := lt_of_row h
theorem OrdAt.is {w : World} {g : Nat} {L : Int} {f : Nat → Nat → Bool} (h : OrdAt w g L f) : rowIs w g 37 := rowIs_mk h (ordC_size L f)
theorem OrdAt.at {w : World} {g : Nat} {L : Int} {f : Nat → Nat → Bool} (h : OrdAt w g L f) : rowAt w g = ordC L f := rowAt_mk h
theorem OrdAt.zero {w : World} {g : Nat} {L : Int} {f : Nat → Nat → Bool} (h : OrdAt w g L f) : w.cell? ⟨g, 0, none⟩ = some (.int .i64 L) := by rw [cell_of_row _ _ _ _ _ _ h, ordC_zero]
theorem OrdAt.cell {w : World} {g : Nat} {L : Int} {f : Nat → Nat → Bool} (h : OrdAt w g L f) (a b : Nat) (ha : a < 6) (hb : b < 6) : w.cell? ⟨g, 1 + a * 6 + b, none⟩ = some (.bool (f a b)) := by rw [cell_of_row _ _ _ _ _ _ h, ordC_get _ _ _ _ ha hb]
theorem ord_new (w : World) (L : Int) (f : Nat → Nat → Bool) : OrdAt (w.alloc (.cells (ordC L f) 105)) w.heap.size L f := Go.heap_alloc_new _ _

set_option maxHeartbeats 400000 in
theorem inRange_any (L a : Int) (w : World) :
    Calls Tryz.prog 107 #[.int .i64 L, .int .i64 a] w fun e w' => e = .returned (.bool (okL L a)) ∧ w = w' := by
  by_cases h : 0 ≤ a
  · go_enter Tryz.func107, Tryz.ntmps107
    go_wp2
    go_ret
    exact ⟨ret_bool (by simp [okL, h]), rfl⟩
  · go_enter Tryz.func107, Tryz.ntmps107
    go_wp2
    go_ret
    exact ⟨ret_bool (by simp [okL]; omega), rfl⟩
set_option maxHeartbeats 400000 in
theorem has_any (L : Int) (f : Nat → Nat → Bool) (a : Int) (w : World) :
    Calls Tryz.prog 54 #[.agg (ordC L f), .int .i64 a] w fun e w' => e = .returned (.bool (okL L a)) ∧ Below w.heap.size w w' := by
  have h0 := (ord_new w L f).zero
  go_enter Tryz.func54, Tryz.ntmps54
  go_wp2_with fail
  refine (inRange_any L a _).mono ?_
  rintro e w1 ⟨rfl, rfl⟩
  go_wp2
  go_ret
  exact ⟨rfl, below_box _ _⟩
/-- At most, by a table. -/
def leO (n : Nat) (f : Nat → Nat → Bool) (a b : Int) : Bool := okL n a && okL n b && f a.toNat b.toNat
theorem okL_cast {n : Nat} {a : Int} (h : okL n a = true) : ∃ x : Nat, a = x ∧ x < n := by
  simp only [okL, Bool.and_eq_true, decide_eq_true_eq] at h
  obtain ⟨x, rfl⟩ := Int.eq_ofNat_of_zero_le h.1
  exact ⟨x, rfl, by omega⟩
set_option maxRecDepth 100000 in
set_option maxHeartbeats 1000000 in
theorem oleq_any (n : Nat) (f : Nat → Nat → Bool) (a b : Int) (w : World) (hn : n ≤ 6) :
    Calls Tryz.prog 113 #[.agg (ordC n f), .int .i64 a, .int .i64 b] w fun e w' => e = .returned (.bool (leO n f a b)) ∧ Below w.heap.size w w' := by
  have HD := hide (show leO n f a b = (okL n a && okL n b && f a.toNat b.toNat) from rfl)
  have HO := hide (ord_new w n f)
  have i0 := (ord_new w n f).is
  have a0 := (ord_new w n f).at
  cases h1 : okL n a
  · have H1 := hide h1
    clear h1
    go_enter Tryz.func113, Tryz.ntmps113
    go_wp2_with fail
    refine (has_any n f a _).mono ?_
    rintro e w1 ⟨rfl, hb1⟩
    rw [H1.out]
    have hbel1 := (below_box w (.cells (ordC n f) 105)).trans (hb1.mono (by simp))
    clear hb1
    go_wp2
    go_ret
    exact ⟨ret_bool (by rw [HD.out, H1.out]; rfl), hbel1⟩
  cases h2 : okL n b
  · have H1 := hide h1
    have H2 := hide h2
    clear h1 h2
    go_enter Tryz.func113, Tryz.ntmps113
    go_wp2_with fail
    refine (has_any n f a _).mono ?_
    rintro e w1 ⟨rfl, hb1⟩
    rw [H1.out]
    have hbel1 := (below_box w (.cells (ordC n f) 105)).trans (hb1.mono (by simp))
    have HO1 := hide (HO.out.below hb1 (by simp))
    have i1 := HO1.out.is
    have a1 := HO1.out.at
    clear hb1
    go_wp2_with fail
    refine (has_any n f b _).mono ?_
    rintro e w2 ⟨rfl, hb2⟩
    rw [H2.out]
    have hbel2 := hbel1.trans (hb2.mono hbel1.size)
    clear hb2
    go_wp2
    go_ret
    exact ⟨ret_bool (by rw [HD.out, H2.out]; simp), hbel2⟩
  obtain ⟨x, rfl, hx⟩ := okL_cast h1
  obtain ⟨y, rfl, hy⟩ := okL_cast h2
  have H1 := hide h1
  have H2 := hide h2
  clear h1 h2
  go_enter Tryz.func113, Tryz.ntmps113
  go_wp2_with fail
  refine (has_any n f x _).mono ?_
  rintro e w1 ⟨rfl, hb1⟩
  rw [H1.out]
  have hbel1 := (below_box w (.cells (ordC n f) 105)).trans (hb1.mono (by simp))
  have HO1 := hide (HO.out.below hb1 (by simp))
  have i1 := HO1.out.is
  have a1 := HO1.out.at
  clear hb1
  go_wp2_with fail
  refine (has_any n f y _).mono ?_
  rintro e w2 ⟨rfl, hb2⟩
  rw [H2.out]
  have hbel2 := hbel1.trans (hb2.mono hbel1.size)
  have HO2 := hide (HO1.out.below hb2 HO1.out.lt)
  have hc := HO2.out.cell x y (by omega) (by omega)
  clear hb2
  go_wp2
  go_ret
  exact ⟨ret_bool (by rw [HD.out, H1.out, H2.out]; simp), hbel2⟩
end Go.Proofs.YtgigkiocdiffjaaGreat
