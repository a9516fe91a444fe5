/- veilkeep.Matched: the walk. -/
import Derived.Test.YtgigkiocdiffjaaMatch
import Derived.Deep.QuietTactic
import Derived.BigQuiet
import Derived.WalkSpells
namespace Go.Proofs.Ytgigkiocdiffjaa
open Go.RowKit Veil
theorem bytes_drop1 (s : ByteArray) : bytes (s.extract 1 s.size) = (bytes s).tail := by
  simp only [bytes, ByteArray.data_extract, Array.toList_extract, List.extract_eq_take_drop]
  rw [List.take_of_length_le (by simp), List.drop_one]
theorem size_drop1 (s : ByteArray) : (s.extract 1 s.size).size = s.size - 1 := by simp
theorem bytes_cons (s : ByteArray) (h : 0 < s.size) : bytes s = s[0] :: (bytes s).tail := by
  have hl : 0 < (bytes s).length := by rw [bytes_length]; exact h
  match hb : bytes s, hl with
  | b :: r, _ =>
    have := bytes_get s 0 h
    simp only [hb, List.getElem_cons_zero] at this
    rw [this]; rfl
theorem bytes_nil (s : ByteArray) (h : s.size = 0) : bytes s = [] := List.eq_nil_of_length_eq_zero (by rw [bytes_length]; exact h)
theorem tail_nil (s : ByteArray) (h : s.size = 1) : (bytes s).tail = [] := List.eq_nil_of_length_eq_zero (by rw [List.length_tail, bytes_length, h])
theorem tail_ne (s : ByteArray) (h : s.size ≠ 1) (h0 : 0 < s.size) : (bytes s).tail ≠ [] := fun e => by
  have := congrArg List.length e
  rw [List.length_tail, bytes_length] at this
  simp at this; omega
theorem valid_drop1 (s : ByteArray) (h : validB s = true) (h2 : 2 ≤ s.size) : validB (s.extract 1 s.size) = true := by
  have hb := bytes_cons s (by omega)
  have hl := bytes_length s
  unfold validB validL at *
  rw [bytes_drop1]
  simp only [Bool.and_eq_true, decide_eq_true_eq] at *
  obtain ⟨⟨h3, h4⟩, h5⟩ := h
  refine ⟨⟨by rw [List.length_tail]; omega, by rw [List.length_tail]; omega⟩, ?_⟩
  rw [hb] at h5
  simp only [List.all_cons, Bool.and_eq_true] at h5
  exact h5.2

/-- What the law asks of the first byte. -/
theorem one_star (s : ByteArray) (T : List UInt8) (h : s.size = 1) (hc : s[0] = 42) : cutB (bytes s) T = true := by
  rw [bytes_cons s (by omega), tail_nil s h, hc]
  exact (cutB_one _ _).2 (Or.inl rfl)
theorem head_nil (s : ByteArray) (h : 0 < s.size) (hc : s[0] ≠ 42) : cutB (bytes s) [] = false := by
  rw [bytes_cons s h]; simp [cutB, hc]
theorem head_cons (s t : ByteArray) (h : 0 < s.size) (ht : 0 < t.size) (hc : s[0] ≠ 42) :
    cutB (bytes s) (bytes t) = ((s[0] == 63 || s[0] == t[0]) && cutB (bytes s).tail (bytes t).tail) := by
  rw [bytes_cons s h, bytes_cons t ht]; simp [cutB, hc]
theorem head_star_nil (s : ByteArray) (h : 0 < s.size) (hc : s[0] = 42) : cutB (bytes s) [] = cutB (bytes s).tail [] := by
  conv => lhs; rw [bytes_cons s h, hc]
  simp [cutB, starB]
theorem head_star_cons (s t : ByteArray) (h : 0 < s.size) (ht : 0 < t.size) (hc : s[0] = 42) :
    cutB (bytes s) (bytes t) = (cutB (bytes s).tail (bytes t) || cutB (bytes s) (bytes t).tail) := by
  have e : ∀ T, cutB (bytes s) T = starB (cutB (bytes s).tail) T := fun T => by
    conv => lhs; rw [bytes_cons s h, hc]
    simp [cutB]
  rw [e, e]
  conv => lhs; rw [bytes_cons t ht]
  rw [starB, ← bytes_cons t ht]

def classI (c : Int) : Int := if 97 ≤ c ∧ c ≤ 122 then 1 else if 48 ≤ c ∧ c ≤ 57 then 2 else if c = 35 then 3 else if c = 32 then 0 else 4
theorem ret_int {k : IntKind} {a b : Int} (h : a = b) : Ending.returned (.int k a) = .returned (.int k b) := by rw [h]
set_option maxHeartbeats 400000 in
theorem class_any (c : Int) (w : World) :
    Calls Try.prog 25 #[.int .u8 c] w fun e w' => e = .returned (.int .i64 (classI c)) ∧ w = w' := by
  by_cases h1 : 97 ≤ c ∧ c ≤ 122
  · obtain ⟨h1, h2⟩ := h1
    go_enter Try.func25, Try.ntmps25
    go_wp2
    go_ret; exact ⟨ret_int (by simp [classI, h1, h2]), rfl⟩
  by_cases h2 : 48 ≤ c ∧ c ≤ 57
  · obtain ⟨h2, h3⟩ := h2
    go_enter Try.func25, Try.ntmps25
    go_wp2
    all_goals (go_ret; exact ⟨ret_int (by simp [classI, h1, h2, h3]), rfl⟩)
  by_cases h3 : c = 35
  · subst h3
    go_enter Try.func25, Try.ntmps25
    go_wp2
    go_ret; exact ⟨rfl, rfl⟩
  by_cases h4 : c = 32
  · subst h4
    go_enter Try.func25, Try.ntmps25
    go_wp2
    go_ret; exact ⟨rfl, rfl⟩
  have h3b : (c == 35) = false := by simpa using h3
  have h4b : (c == 32) = false := by simpa using h4
  have HC : Hid (classI c = 4) := by show classI c = 4; simp [classI, h1, h2, h3, h4]
  clear h3 h4
  by_cases g1 : 97 ≤ c
  · have g2 : 122 < c := by omega
    clear h1 h2
    go_enter Try.func25, Try.ntmps25
    go_wp2
    all_goals (go_ret; exact ⟨ret_int HC.out.symm, rfl⟩)
  · have g2 : c < 48 ∨ 57 < c := by omega
    clear h1 h2
    go_enter Try.func25, Try.ntmps25
    go_wp2
    all_goals (go_ret; exact ⟨ret_int HC.out.symm, rfl⟩)
theorem class_may (c : Int) : (classI c == 1 || classI c == 2 || c == 63 || c == 42) = mayB c := by
  rw [Bool.eq_iff_iff]
  unfold classI mayB
  split
  · simp_all
  · split
    · simp_all
    · split
      · simp_all
      · split
        · simp_all
        · simp_all; omega
set_option maxHeartbeats 400000 in
theorem sign_any (c : Int) (w : World) :
    Calls Try.prog 7 #[.int .u8 c] w fun e w' => e = .returned (.bool (mayB c)) ∧ w = w' := by
  rw [← class_may]
  go_enter Try.func7, Try.ntmps7
  go_wp2_with fail
  refine (class_any c _).mono ?_
  rintro e w' ⟨rfl, rfl⟩
  go_wp2
  all_goals (go_ret; first | exact ⟨rfl, rfl⟩ | (refine ⟨ret_bool ?_, rfl⟩; simp_all))
end Go.Proofs.Ytgigkiocdiffjaa
