/- Rows of bools by functions; how far a pattern comes. No Go here. -/
import Derived.Test.YtgigkiocdiffjaaGreatPure
namespace Veil
/-- A row of bools by a function. -/
def fvec (n : Nat) (f : Nat → Bool) : List Bool := (List.range n).map f
theorem fvec_length (n : Nat) (f : Nat → Bool) : (fvec n f).length = n := by simp [fvec]
theorem fvec_get (n : Nat) (f : Nat → Bool) (j : Nat) (h : j < n) : (fvec n f)[j]? = some (f j) := by simp [fvec, h]
theorem fvec_congr (n : Nat) (f g : Nat → Bool) (h : ∀ j, j < n → f j = g j) : fvec n f = fvec n g := by
  unfold fvec; exact List.map_congr_left fun j hj => h j (by simpa using hj)
theorem fvec_set (n : Nat) (f : Nat → Bool) (j : Nat) (b : Bool) : (fvec n f).set j b = fvec n (fun i => if i = j then b else f i) := by
  apply List.ext_getElem?
  intro i
  rw [List.getElem?_set]
  by_cases hi : i < n
  · rw [fvec_get _ _ _ hi, fvec_get _ _ _ hi, fvec_length]
    by_cases e : j = i
    · subst e; simp [hi]
    · rw [if_neg e, if_neg (fun h => e h.symm)]
  · rw [List.getElem?_eq_none (l := fvec n f) (by rw [fvec_length]; omega), List.getElem?_eq_none (by rw [fvec_length]; omega)]
    split
    · rw [if_neg (by rw [fvec_length]; omega)]
    · rfl
/-- Up to which places of the text the pattern q can come. -/
def reachF (q T : List UInt8) (k : Nat) : Bool := cutB q (T.take k)
/-- The byte c of the pattern, behind q: the places that are come to from a place before k. -/
def nextF (c : UInt8) (q T : List UInt8) (k n : Nat) : Bool :=
  if c = 42 then (List.range (n + 1)).any (fun j => decide (j < k) && reachF q T j)
  else decide (1 ≤ n) && decide (n - 1 < k) && (c == 63 || some c == T[n - 1]?) && reachF q T (n - 1)
theorem nextF_zero (c : UInt8) (q T : List UInt8) (n : Nat) : nextF c q T 0 n = false := by
  unfold nextF; split <;> simp
theorem take_get (T : List UInt8) (n : Nat) (b : UInt8) (h : T[n]? = some b) : T.take (n + 1) = T.take n ++ [b] := by
  rw [List.take_add_one, h]; rfl
theorem any_range_iff (n : Nat) (f : Nat → Bool) : (List.range n).any f = true ↔ ∃ j, j < n ∧ f j = true := by simp
theorem nextF_all (c : UInt8) (q T : List UInt8) (n : Nat) (h : n ≤ T.length) : nextF c q T (T.length + 1) n = reachF (q ++ [c]) T n := by
  unfold nextF
  split
  · rename_i hc
    subst hc
    rw [Bool.eq_iff_iff, any_range_iff, reachF, cutB_append]
    constructor
    · rintro ⟨j, hj, hr⟩
      simp only [Bool.and_eq_true, decide_eq_true_eq] at hr
      refine ⟨T.take j, (T.take n).drop j, ?_, hr.2, (cutB_one _ _).2 (Or.inl rfl)⟩
      have e : T.take j = (T.take n).take j := by rw [List.take_take, Nat.min_eq_left (by omega)]
      rw [e, List.take_append_drop]
    · rintro ⟨t1, t2, h1, h2, _⟩
      have hl : t1.length ≤ n := by
        have := congrArg List.length h1
        simp at this; omega
      refine ⟨t1.length, by omega, ?_⟩
      simp only [Bool.and_eq_true, decide_eq_true_eq]
      refine ⟨by omega, ?_⟩
      have e : T.take t1.length = t1 := by
        have e1 : T.take t1.length = (T.take n).take t1.length := by rw [List.take_take, Nat.min_eq_left (by omega)]
        rw [e1, h1, List.take_left]
      rw [reachF, e]; exact h2
  · rename_i hc
    match n, h with
    | 0, _ =>
      simp only [reachF, List.take_zero]
      rw [cutB_snoc_nil]; simp [hc]
    | n + 1, h =>
      have hb : T[n]? = some T[n] := List.getElem?_eq_getElem (by omega)
      simp only [reachF, Nat.add_sub_cancel]
      rw [take_get T n _ hb, cutB_snoc_one _ _ _ _ hc, hb]
      have h1 : decide (1 ≤ n + 1) = true := by simp
      have h2 : decide (n < T.length + 1) = true := by simp; omega
      rw [h1, h2]; simp
/-- A step of the walk: c is no star. -/
theorem nextF_one (c : UInt8) (q T : List UInt8) (k : Nat) (hc : c ≠ 42) (b : Bool) (hb : b = ((c == 63 || some c == T[k]?) && reachF q T k)) (n : Nat) :
    nextF c q T (k + 1) n = if n = k + 1 then b else nextF c q T k n := by
  unfold nextF
  rw [if_neg hc, if_neg hc]
  by_cases e : n = k + 1
  · subst e; rw [if_pos rfl, hb]; simp
  · rw [if_neg e]
    have : (decide (1 ≤ n) && decide (n - 1 < k + 1)) = (decide (1 ≤ n) && decide (n - 1 < k)) := by
      rw [Bool.eq_iff_iff]; simp; omega
    rw [this]
theorem nextF_past (c : UInt8) (q T : List UInt8) (k : Nat) (hc : c ≠ 42) (hr : ((c == 63 || some c == T[k]?) && reachF q T k) = false) (n : Nat) : nextF c q T (k + 1) n = nextF c q T k n := by
  rw [nextF_one c q T k hc false hr.symm n]
  split
  · subst_vars; unfold nextF; rw [if_neg hc]; simp
  · rfl
/-- c is a star. -/
theorem nextF_star_no (q T : List UInt8) (k : Nat) (hr : reachF q T k = false) (n : Nat) : nextF 42 q T (k + 1) n = nextF 42 q T k n := by
  unfold nextF
  simp only [if_true]
  rw [Bool.eq_iff_iff, any_range_iff, any_range_iff]
  constructor
  · rintro ⟨j, hj, h⟩
    simp only [Bool.and_eq_true, decide_eq_true_eq] at h
    refine ⟨j, hj, ?_⟩
    have : j ≠ k := fun e => by rw [e, hr] at h; simp at h
    simp only [Bool.and_eq_true, decide_eq_true_eq]
    exact ⟨by omega, h.2⟩
  · rintro ⟨j, hj, h⟩
    simp only [Bool.and_eq_true, decide_eq_true_eq] at h
    exact ⟨j, hj, by simp only [Bool.and_eq_true, decide_eq_true_eq]; exact ⟨by omega, h.2⟩⟩
theorem nextF_star_none (q T : List UInt8) (k : Nat) (h : ∀ j, j < k → reachF q T j = false) (n : Nat) : nextF 42 q T k n = false := by
  unfold nextF
  simp only [if_true]
  rw [Bool.eq_false_iff]
  intro hh
  obtain ⟨j, _, h2⟩ := (any_range_iff _ _).1 hh
  simp only [Bool.and_eq_true, decide_eq_true_eq] at h2
  rw [h j h2.1] at h2
  simp at h2
theorem nextF_star_yes (q T : List UInt8) (k m : Nat) (hkm : k < m) (h : ∀ j, j < k → reachF q T j = false) (hr : reachF q T k = true) (n : Nat) : nextF 42 q T m n = decide (k ≤ n) := by
  unfold nextF
  simp only [if_true]
  rw [Bool.eq_iff_iff, any_range_iff, decide_eq_true_eq]
  constructor
  · rintro ⟨j, hj, h2⟩
    simp only [Bool.and_eq_true, decide_eq_true_eq] at h2
    by_cases e : j < k
    · rw [h j e] at h2; simp at h2
    · omega
  · intro hk
    exact ⟨k, by omega, by simp only [Bool.and_eq_true, decide_eq_true_eq]; exact ⟨hkm, hr⟩⟩
end Veil
