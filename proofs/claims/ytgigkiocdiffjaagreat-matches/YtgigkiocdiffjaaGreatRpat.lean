/- veilref.pattern; slices of bools that are made. -/
import Derived.Test.YtgigkiocdiffjaaGreatMatch
import Derived.Test.YtgigkiocdiffjaaGreatReach
import Derived.Deep.OwnRows
import Derived.Deep.QuietTactic
import Derived.BigQuiet
namespace Go.Proofs.YtgigkiocdiffjaaGreat
open Go.RowKit Veil
theorem bools_made (n : Nat) : madeCells #[.bool false] n = bools (fvec n fun _ => false) := by
  apply Array.ext_getElem?
  intro i
  rw [bools_get]
  by_cases hi : i < n
  · rw [fvec_get _ _ _ hi]
    simp [madeCells, hi, Nat.mod_one]
  · rw [List.getElem?_eq_none (by rw [fvec_length]; omega), Array.getElem?_eq_none (by rw [size_madeCells]; omega)]
    rfl
theorem Tryz.infoBool : (Tryz.prog.info? 4).map (fun i => (i.zero, i.size, i.bytes)) = some (some (.bool false), 1, 1) := by kernel_rfl
theorem run_make_bools (n : Nat) (h : n ≤ 281474976710656) (w : World) :
    (Instr.makeSlice 195 (.int .i64 (n : Int)) (.int .i64 (n : Int))).run Tryz.prog w = .ok (.slice (some ⟨w.heap.size, 0, none⟩) n n) (w.alloc (.cells (bools (fvec n fun _ => false)) 4)) := by
  rw [← bools_made]
  exact Go.run_make_row' 195 4 (.bool false) 1 Tryz.underlying195 Tryz.infoBool rfl .i64 .i64 n (by omega) (by omega) w
/-- A cell of such a row; a store into it. -/
theorem f_cell {w : World} {g n j : Nat} {f : Nat → Bool} {ty : TypeId} (h : w.heap[g]? = some (.cells (bools (fvec n f)) ty (0, 0))) (hj : j < n) : w.cell? ⟨g, j, none⟩ = some (.bool (f j)) := by
  rw [cell_of_row _ _ _ _ _ _ h, bools_get, fvec_get _ _ _ hj]; rfl
theorem f_store {w : World} {g n j : Nat} {f f' : Nat → Bool} {ty : TypeId} {b : Bool} (h : w.heap[g]? = some (.cells (bools (fvec n f)) ty (0, 0))) (hf : ∀ i, i < n → f' i = if i = j then b else f i) :
    (w.setCell ⟨g, j, none⟩ (.bool b)).heap[g]? = some (.cells (bools (fvec n f')) ty (0, 0)) := by
  rw [heap_setCell_same _ _ _ _ _ _ h, bools_set, fvec_set, fvec_congr n f' _ hf]
theorem f_same {w : World} {g n : Nat} {f f' : Nat → Bool} {ty : TypeId} (h : w.heap[g]? = some (.cells (bools (fvec n f)) ty (0, 0))) (hf : ∀ i, i < n → f' i = f i) :
    w.heap[g]? = some (.cells (bools (fvec n f')) ty (0, 0)) := by
  rw [h, fvec_congr n f' f hf]

set_option maxHeartbeats 1000000 in
theorem rpattern_any (s : ByteArray) (w : World) (hs : s.size ≤ maxLen) :
    Calls Tryz.prog 78 #[.string s] w fun e w' => e = .returned (.bool (validB s)) ∧ w = w' := by
  unfold maxLen at hs
  go_enter Tryz.func78, Tryz.ntmps78
  go_wp2
  go_loop [3] (fun i => ∃ k : Nat, k ≤ s.size ∧ i = .int .i64 k ∧ validTo s k = true) (fun i => s.size - (intOf i).toNat)
  case atStart => exact ⟨0, Nat.zero_le _, rfl, by simp [validTo]⟩
  case round =>
    obtain ⟨k, hk, rfl, hv⟩ := hrel
    have HV : Hid (validTo s k = true) := hv
    clear hv
    by_cases hlt : k < s.size
    · have HS : Hid _ := validTo_succ s k hlt
      have HF : Hid _ := validTo_false s k hlt
      have HM : Hid (mayB s[k].toNat = (decide (97 ≤ (s[k].toNat : Int) ∧ (s[k].toNat : Int) ≤ 122) || decide (48 ≤ (s[k].toNat : Int) ∧ (s[k].toNat : Int) ≤ 57) || (s[k].toNat : Int) == 63 || (s[k].toNat : Int) == 42)) := rfl
      have hb : s[k].toNat < 256 := s[k].toNat_lt
      by_cases hA : 97 ≤ (s[k].toNat : Int) ∧ (s[k].toNat : Int) ≤ 122
      · obtain ⟨a1, a2⟩ := hA
        have HT : Hid (validTo s (k + 1) = true) := by show _ = _; rw [HS.out, HV.out, HM.out]; simp [a1, a2]
        go_wp2
        all_goals
          go_round
          case rel => exact ⟨k + 1, by omega, by go_num, HT.out⟩
          case measure => simp [intOf]; omega
      by_cases hB : 48 ≤ (s[k].toNat : Int) ∧ (s[k].toNat : Int) ≤ 57
      · obtain ⟨a1, a2⟩ := hB
        have HT : Hid (validTo s (k + 1) = true) := by show _ = _; rw [HS.out, HV.out, HM.out]; simp [a1, a2]
        clear hA
        go_wp2
        all_goals
          go_round
          case rel => exact ⟨k + 1, by omega, by go_num, HT.out⟩
          case measure => simp [intOf]; omega
      have hcase : (s[k].toNat : Int) < 48 ∨ (57 < (s[k].toNat : Int) ∧ (s[k].toNat : Int) < 97) ∨ 122 < (s[k].toNat : Int) := by omega
      by_cases h63 : (s[k].toNat : Int) = 63
      · have hb63 : ((s[k].toNat : Int) != 63) = false := by simp [h63]
        have HT : Hid (validTo s (k + 1) = true) := by show _ = _; rw [HS.out, HV.out, HM.out]; simp [h63]
        have hc1 : 57 < (s[k].toNat : Int) := by omega
        have hc2 : (s[k].toNat : Int) < 97 := by omega
        clear hA hB hcase h63
        go_wp2
        all_goals
          go_round
          case rel => exact ⟨k + 1, by omega, by go_num, HT.out⟩
          case measure => simp [intOf]; omega
      have hb63 : ((s[k].toNat : Int) != 63) = true := by simp [h63]
      by_cases h42 : (s[k].toNat : Int) = 42
      · have hb42 : ((s[k].toNat : Int) != 42) = false := by simp [h42]
        have HT : Hid (validTo s (k + 1) = true) := by show _ = _; rw [HS.out, HV.out, HM.out]; simp [h42]
        have hc1 : (s[k].toNat : Int) < 48 := by omega
        clear hA hB hcase h63 h42
        go_wp2
        all_goals
          go_round
          case rel => exact ⟨k + 1, by omega, by go_num, HT.out⟩
          case measure => simp [intOf]; omega
      have hb42 : ((s[k].toNat : Int) != 42) = true := by simp [h42]
      have HT : Hid (validB s = false) := HF.out (by rw [HM.out]; simp [h63, h42]; omega)
      clear h63 h42 hA hB
      rcases hcase with hc1 | ⟨hc1, hc2⟩ | hc1
      · go_wp2
        go_ret
        exact ⟨ret_bool HT.out.symm, rfl⟩
      · have hd : decide ((s[k].toNat : Int) ≤ 57) = false := decide_eq_false (by omega)
        go_wp2
        go_ret
        exact ⟨ret_bool HT.out.symm, rfl⟩
      · have hd : decide ((s[k].toNat : Int) ≤ 57) = false := decide_eq_false (by omega)
        have hd2 : decide ((s[k].toNat : Int) ≤ 122) = false := decide_eq_false (by omega)
        go_wp2
        go_ret
        exact ⟨ret_bool HT.out.symm, rfl⟩
    · have : k = s.size := by omega
      subst this
      by_cases h1 : 1 ≤ s.size
      · by_cases h2 : s.size ≤ 12
        · have HT : Hid (validB s = true) := validTo_all s h1 h2 HV.out
          go_wp2
          go_ret
          exact ⟨ret_bool (by rw [HT.out]; simp; omega), rfl⟩
        · have HT : Hid (validB s = false) := validB_big s (by omega)
          go_wp2
          go_ret
          exact ⟨ret_bool (by rw [HT.out]; simp; omega), rfl⟩
      · have HT : Hid (validB s = false) := validB_small s (by omega)
        go_wp2
        go_ret
        exact ⟨ret_bool HT.out.symm, rfl⟩

end Go.Proofs.YtgigkiocdiffjaaGreat
