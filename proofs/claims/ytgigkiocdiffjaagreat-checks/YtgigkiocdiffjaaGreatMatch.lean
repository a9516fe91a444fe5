/- patterns.Matches, veil.Match. -/
import Derived.Test.YtgigkiocdiffjaaGreatCuts
import Derived.Test.YtgigkiocdiffjaaGreatRowkit
namespace Go.Proofs.YtgigkiocdiffjaaGreat
open Go.RowKit Veil
theorem okRow_bools {l : List Bool} {n : Nat} (h : l.length = n) : okRow (bools l) n := ⟨by rw [bools_size, h], bools_one _⟩
@[go_sem] def rowN (t : TypeId) : Nat := if t = 192 then 13 else 0
theorem rowN_ok : RowsOk Tryz.prog rowN := by
  refine ⟨rfl, fun ty h => ?_⟩
  unfold rowN at *
  split at h
  · subst_vars; exact ⟨_, Tryz.underlying192, rfl, Tryz.sizeCuts⟩
  · exact absurd rfl h
@[go_sem ↓] theorem rows_cuts : RowLaw Tryz.prog rowN := row_law rowN_ok

set_option maxHeartbeats 1000000 in
theorem matches_yes (s t : ByteArray) (w : World) (hs : validB s = true) (ht : t.size ≤ maxLen) :
    Calls Tryz.prog 77 #[.string s, .string t] w fun e w' => e = .returned (.bool (cutB (bytes s) (bytes t))) ∧ Below w.heap.size w w' := by
  obtain ⟨hs1, hs2⟩ := validB_size hs
  have hsl : s.size ≤ maxLen := by unfold maxLen; omega
  unfold maxLen at ht
  go_enter Tryz.func77, Tryz.ntmps77
  go_wp2_with fail
  refine (valid_any s _ hsl).mono ?_
  rintro e w' ⟨rfl, rfl⟩
  rw [hs]
  go_wp2_with fail
  refine (nothing_any s _ hs1 hs2).mono ?_
  rintro e w1 ⟨rfl, hb1⟩
  have HN : Hid _ := (Go.heap_alloc_new w1 (.cells (bools (List.replicate 13 false)) 192))
  go_wp2_with (refine wpList_store_row rfl 192 _ _ rfl w1.heap.size (bools (vecTo (bytes s) [] s.size)) rfl rfl 192 (bools (List.replicate 13 false)) HN.out (sizeCuts_of (vecTo_length _ _ _)) (by simp [bools_size, vecTo_length]) (bools_one _) ?_)
  go_loopw [6] (fun i wr => ∃ k : Nat, k ≤ t.size ∧ i = .int .i64 k ∧ wr.heap[w1.heap.size]? = some (.cells (bools (vecTo (bytes s) ((bytes t).take k) s.size)) 192 (0, 0)) ∧ Below w.heap.size w wr) (fun i _ => t.size - (intOf i).toNat)
  case atStart => exact ⟨0, Nat.zero_le _, rfl, setRow_heap _ _ _ _ _ _ HN.out, below_setRow (hb1.alloc hb1.size _) hb1.size _⟩
  case round =>
    obtain ⟨k, hk, rfl, hrow, hbel⟩ := hrel
    have HR : Hid _ := hrow
    by_cases hlt : k < t.size
    · have hr1 := rowIs_mk hrow (by rw [bools_size, vecTo_length])
      have hr2 := rowAt_mk hrow
      have hok := okRow_bools (vecTo_length (bytes s) ((bytes t).take k ++ [t[k]]) s.size)
      clear hrow
      go_wp2_with fail
      go_region_with (go_at_call 124; refine (read_any s ((bytes t).take k) t[k] _ hs1 hs2).mono ?_; rintro e w2 ⟨rfl, hb2⟩; have hr3 := rowIs_mk (Below.row hb2 HR.out (lt_of_row HR.out)) (by rw [bools_size, vecTo_length]))
      all_goals
        go_wp2
        go_roundw
        case rel =>
          refine ⟨k + 1, by omega, by go_num, ?_, below_setRow (hbel.drew.trans (hb2.mono (by exact hbel.size))) (by exact hb1.size) _⟩
          rw [take_snoc t k hlt]
          exact setRow_heap _ _ _ _ _ _ (Below.row hb2 HR.out (lt_of_row HR.out))
        case measure => simp [intOf]; omega
    · have hc := vec_cell hrow (Nat.le_refl s.size) (by omega)
      rw [List.take_of_length_le (by rw [bytes_length]; exact Nat.le_refl _), List.take_of_length_le (by rw [bytes_length]; omega)] at hc
      clear hrow
      go_wp2
      go_ret
      exact ⟨rfl, hbel⟩

theorem ret_two {a b : Bool} {m n : Int} (h : a = b) (h' : m = n) : Ending.returned (.tuple #[.bool a, .int .i64 m]) = .returned (.tuple #[.bool b, .int .i64 n]) := by rw [h, h']
set_option maxHeartbeats 400000 in
theorem match_no (s t : ByteArray) (w : World) (hs : validB s = false) (hsl : s.size ≤ maxLen) :
    Calls Tryz.prog 38 #[.string s, .string t] w fun e w' => e = .returned (.tuple #[.bool false, .int .i64 8]) ∧ w = w' := by
  go_enter Tryz.func38, Tryz.ntmps38
  go_wp2_with fail
  refine (valid_any s _ hsl).mono ?_
  rintro e w' ⟨rfl, rfl⟩
  rw [hs]
  go_wp2
  go_ret2
  exact ⟨rfl, rfl⟩
set_option maxHeartbeats 400000 in
theorem match_yes (s t : ByteArray) (w : World) (hs : validB s = true) (ht : t.size ≤ maxLen) :
    Calls Tryz.prog 38 #[.string s, .string t] w fun e w' => e = .returned (.tuple #[.bool (cutB (bytes s) (bytes t)), .int .i64 0]) ∧ Below w.heap.size w w' := by
  have hsl : s.size ≤ maxLen := by have := validB_size hs; unfold maxLen; omega
  go_enter Tryz.func38, Tryz.ntmps38
  go_wp2_with fail
  refine (valid_any s _ hsl).mono ?_
  rintro e w' ⟨rfl, rfl⟩
  rw [hs]
  go_wp2_with fail
  refine (matches_yes s t _ hs ht).mono ?_
  rintro e w1 ⟨rfl, hb1⟩
  go_wp2
  go_ret2
  exact ⟨rfl, hb1⟩
end Go.Proofs.YtgigkiocdiffjaaGreat
