/- mayStand, Valid: they only compute. -/
import Derived.Test.YtgigkiocdiffjaaGreatRows
import Derived.WalkKit
import Derived.ProofKit
import Derived.OpenShut
import Derived.ShutString
import Derived.Test.YtgigkiocdiffjaaGreatPure
namespace Go.Proofs.YtgigkiocdiffjaaGreat
open Go.RowKit Veil
theorem hide {p : Prop} (h : p) : Hid p := h
theorem ret_bool {a b : Bool} (h : a = b) : Ending.returned (.bool a) = .returned (.bool b) := by rw [h]

set_option maxHeartbeats 400000 in
theorem may_any (c : Int) (w : World) :
    Calls Tryz.prog 122 #[.int .u8 c] w fun e w' => e = .returned (.bool (mayB c)) ∧ w = w' := by
  go_enter Tryz.func122, Tryz.ntmps122
  go_wp2
  all_goals (go_ret; refine ⟨ret_bool ?_, rfl⟩; rw [Bool.eq_iff_iff]; simp [mayB]; try omega)

/-- A string's bytes. -/
def bytes (s : ByteArray) : List UInt8 := s.data.toList
theorem bytes_length (s : ByteArray) : (bytes s).length = s.size := by simp [bytes]
theorem bytes_get (s : ByteArray) (k : Nat) (h : k < s.size) : (bytes s)[k]'(by rw [bytes_length]; exact h) = s[k] := rfl
def validTo (s : ByteArray) (k : Nat) : Bool := ((bytes s).take k).all (fun b => mayB b.toNat)
def validB (s : ByteArray) : Bool := validL (bytes s)

theorem take_snoc (s : ByteArray) (k : Nat) (h : k < s.size) : (bytes s).take (k + 1) = (bytes s).take k ++ [s[k]] := by
  rw [take_snocL _ k (by rw [bytes_length]; exact h)]; rfl
theorem validTo_succ (s : ByteArray) (k : Nat) (h : k < s.size) : validTo s (k + 1) = (validTo s k && mayB s[k].toNat) := by
  unfold validTo; rw [take_snoc s k h]; simp
theorem validTo_false (s : ByteArray) (k : Nat) (h : k < s.size) (h2 : mayB s[k].toNat = false) : validB s = false := by
  unfold validB validL
  have : (bytes s).all (fun b => mayB b.toNat) = false := by
    rw [List.all_eq_false]
    refine ⟨s[k], ?_, by simp [h2]⟩
    rw [← bytes_get s k h]
    exact List.getElem_mem _
  simp [this]
theorem validTo_all (s : ByteArray) (h : 1 ≤ s.size) (h' : s.size ≤ 12) (h2 : validTo s s.size = true) : validB s = true := by
  unfold validB validL; unfold validTo at h2
  rw [List.take_of_length_le (by rw [bytes_length]; exact Nat.le_refl _)] at h2
  simp [bytes_length, h, h', h2]
theorem validB_small (s : ByteArray) (h : s.size < 1) : validB s = false := by
  unfold validB validL; simp [bytes_length]; omega
theorem validB_big (s : ByteArray) (h : 12 < s.size) : validB s = false := by
  unfold validB validL; simp [bytes_length]; omega
theorem validB_size {s : ByteArray} (h : validB s = true) : 1 ≤ s.size ∧ s.size ≤ 12 := by
  unfold validB validL at h; simp [bytes_length] at h; omega

set_option maxHeartbeats 400000 in
theorem valid_any (s : ByteArray) (w : World) (hs : s.size ≤ maxLen) :
    Calls Tryz.prog 76 #[.string s] w fun e w' => e = .returned (.bool (validB s)) ∧ w = w' := by
  unfold maxLen at hs
  by_cases h1 : s.size < 1
  · go_enter Tryz.func76, Tryz.ntmps76
    go_wp2
    go_ret
    exact ⟨ret_bool (validB_small s h1).symm, rfl⟩
  by_cases h2 : 12 < s.size
  · go_enter Tryz.func76, Tryz.ntmps76
    go_wp2
    go_ret
    exact ⟨ret_bool (validB_big s h2).symm, rfl⟩
  go_enter Tryz.func76, Tryz.ntmps76
  go_wp2
  go_loop [3] (fun i => ∃ k : Nat, k ≤ s.size ∧ i = .int .i64 k ∧ validTo s k = true) (fun i => s.size - (intOf i).toNat)
  case atStart => exact ⟨0, Nat.zero_le _, rfl, by simp [validTo]⟩
  case round =>
    obtain ⟨k, hk, rfl, hv⟩ := hrel
    have HV : Hid (validTo s k = true) := hv
    clear hv
    by_cases hlt : k < s.size
    · cases hm : mayB s[k].toNat
      · go_wp2_with (go_at_call 122; refine (may_any _ _).mono ?_; rintro e w' ⟨rfl, rfl⟩)
        go_ret
        exact ⟨ret_bool (validTo_false s k hlt hm).symm, rfl⟩
      · go_wp2_with (go_at_call 122; refine (may_any _ _).mono ?_; rintro e w' ⟨rfl, rfl⟩)
        go_round
        case rel => exact ⟨k + 1, by omega, by go_num, by rw [validTo_succ s k hlt, HV.out, hm]; rfl⟩
        case measure => simp [intOf]; omega
    · go_wp2
      go_ret
      have : k = s.size := by omega
      subst this
      exact ⟨ret_bool (validTo_all s (by omega) (by omega) HV.out).symm, rfl⟩
end Go.Proofs.YtgigkiocdiffjaaGreat
