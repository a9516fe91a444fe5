/- among: does a number stand in a list? -/
import Derived.Test.YtgigkiocdiffjaaGreatLeaf
namespace Go.Proofs.YtgigkiocdiffjaaGreat
open Go.RowKit Veil
/-- A slice of ints whose array lies at the head of a block. -/
def IntsAt (w : World) (g : Nat) (l : List Int) : Prop := w.heap[g]? = some (.cells (l.map (Value.int .i64)).toArray 3 (0, 0))
theorem IntsAt.cell {w : World} {g : Nat} {l : List Int} (h : IntsAt w g l) (k : Nat) (hk : k < l.length) : w.cell? ⟨g, k, none⟩ = some (.int .i64 (l.getD k 0)) := by
  unfold IntsAt at h
  simp [World.cell?, h, hk]
theorem take_contains (l : List Int) (k : Nat) (x : Int) (hk : k < l.length) : (l.take (k + 1)).contains x = ((l.take k).contains x || x == l.getD k 0) := by
  rw [Bool.eq_iff_iff, List.take_succ_eq_append_getElem hk]
  have e : l.getD k 0 = l[k] := by simp [hk]
  rw [e]
  simp only [List.contains_iff_mem, List.mem_append, List.mem_singleton, Bool.or_eq_true, beq_iff_eq]
set_option maxHeartbeats 400000 in
theorem among_any (g : Nat) (l : List Int) (x : Int) (w : World) (h : IntsAt w g l) (hl : l.length ≤ 1000) :
    Calls Tryz.prog 17 #[.slice (some ⟨g, 0, none⟩) l.length l.length, .int .i64 x] w fun e w' => e = .returned (.bool (l.contains x)) ∧ w = w' := by
  go_enter Tryz.func17, Tryz.ntmps17
  go_wp2
  go_loop [5] (fun i => ∃ k : Nat, k ≤ l.length ∧ i = .int .i64 k ∧ (l.take k).contains x = false) (fun i => l.length - (intOf i).toNat)
  case atStart => exact ⟨0, Nat.zero_le _, rfl, by simp⟩
  case round =>
    obtain ⟨k, hk, rfl, hv⟩ := hrel
    have HV : Hid _ := hv
    clear hv
    by_cases hlt : k < l.length
    · have hc := h.cell k hlt
      have HT : Hid _ := take_contains l k x hlt
      have HM : Hid (l.getD k 0 ∈ l) := by show _ ∈ _; simp [hlt]
      have H : Hid _ := h
      generalize l.getD k 0 = y at *
      clear h
      by_cases hy : y = x
      · have hb : (y == x) = true := by simpa using hy
        have HY : Hid _ := hy
        clear hy
        go_wp2
        go_ret
        exact ⟨ret_bool (by have := HM.out; rw [HY.out] at this; simpa using this), rfl⟩
      · have hb : (y == x) = false := by simpa using hy
        have HY : Hid (¬ y = x) := hy
        clear hy
        go_wp2
        go_round
        case rel => exact ⟨k + 1, by omega, by go_num, by rw [HT.out, HV.out]; simpa using fun e => HY.out e.symm⟩
        case measure => simp [intOf]; omega
    · have : k = l.length := by omega
      subst this
      go_wp2
      go_ret
      exact ⟨ret_bool (by have := HV.out; rw [List.take_length] at this; simpa using this), rfl⟩
end Go.Proofs.YtgigkiocdiffjaaGreat
