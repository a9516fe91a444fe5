/- veilref.Match; looks, of a world in which nothing was made. -/
import Derived.Test.YtgigkiocdiffjaaGreatRmatch
import Derived.Test.YtgigkiocdiffjaaGreatAmong
namespace Go.Proofs.YtgigkiocdiffjaaGreat
open Go.RowKit Veil
set_option maxHeartbeats 400000 in
theorem rMatch_no (s t : ByteArray) (w : World) (hs : validB s = false) (hsl : s.size ≤ maxLen) :
    Calls Tryz.prog 39 #[.string s, .string t] w fun e w' => e = .returned (.tuple #[.bool false, .int .i64 8]) ∧ w = w' := by
  go_enter Tryz.func39, Tryz.ntmps39
  go_wp2_with fail
  refine (rpattern_any s _ hsl).mono ?_
  rintro e w' ⟨rfl, rfl⟩
  rw [hs]
  go_wp2
  go_ret2
  exact ⟨rfl, rfl⟩
set_option maxHeartbeats 400000 in
theorem rMatch_yes (s t : ByteArray) (w : World) (hs : validB s = true) (ht : t.size ≤ 140737488355328) :
    Calls Tryz.prog 39 #[.string s, .string t] w fun e w' => e = .returned (.tuple #[.bool (cutB (bytes s) (bytes t)), .int .i64 0]) ∧ Below w.heap.size w w' := by
  have hsl : s.size ≤ maxLen := by have := validB_size hs; unfold maxLen; omega
  go_enter Tryz.func39, Tryz.ntmps39
  go_wp2_with fail
  refine (rpattern_any s _ hsl).mono ?_
  rintro e w' ⟨rfl, rfl⟩
  rw [hs]
  go_wp2_with fail
  refine (rmatch_any s t _ hsl ht).mono ?_
  rintro e w1 ⟨rfl, hb1⟩
  go_wp2
  go_ret2
  exact ⟨rfl, hb1⟩

/-- A world of the law in which nothing was made: the configurations, and four lists that are nil. -/
def PlainW (w : World) (g : Nat) (cs : Value) : Prop := w.heap[g]? = some (.cells #[cs, .slice none 0 0, .slice none 0 0, .slice none 0 0, .slice none 0 0] 55 (0, 0))
theorem PlainW.cells {w : World} {g : Nat} {cs : Value} (h : PlainW w g cs) : w.cell? ⟨g, 0, none⟩ = some cs ∧ w.cell? ⟨g, 1, none⟩ = some (.slice none 0 0) ∧ w.cell? ⟨g, 2, none⟩ = some (.slice none 0 0) ∧ w.cell? ⟨g, 3, none⟩ = some (.slice none 0 0) ∧ w.cell? ⟨g, 4, none⟩ = some (.slice none 0 0) := by
  unfold PlainW at h
  simp [World.cell?, h]
theorem PlainW.below {w w' : World} {g B : Nat} {cs : Value} (h : PlainW w g cs) (hb : Below B w w') (hg : g < B) : PlainW w' g cs := Below.row hb h hg
theorem PlainW.lt {w : World} {g : Nat} {cs : Value} (h : PlainW w g cs) : g < w.heap.size := lt_of_row h
set_option maxHeartbeats 1000000 in
theorem looks_plain (g : Nat) (cs : Value) (w : World) (h : PlainW w g cs) :
    Calls Tryz.prog 19 #[.pointer (some ⟨g, 0, none⟩)] w fun e w' => e = .returned (.bool true) ∧ w = w' := by
  obtain ⟨h0, h1, h2, h3, h4⟩ := h.cells
  have H : Hid _ := h
  clear h
  go_enter Tryz.func19, Tryz.ntmps19
  go_wp2
  refine wp_loop_rounds 1 ?_
  rw [rounds_succ]
  go_wp2
  refine wp_loop_rounds 1 ?_
  rw [rounds_succ]
  go_wp2
  refine wp_loop_rounds 1 ?_
  rw [rounds_succ]
  go_wp2
  go_ret
  exact ⟨rfl, rfl⟩
end Go.Proofs.YtgigkiocdiffjaaGreat
