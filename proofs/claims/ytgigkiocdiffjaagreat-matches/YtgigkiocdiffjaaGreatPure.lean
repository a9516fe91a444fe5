/- Patterns, plainly: which texts a pattern cuts. No Go, no program here. -/
namespace Veil

/-- May a byte stand in a pattern? (as the number that it is) -/
def mayB (c : Int) : Bool := decide (97 ≤ c ∧ c ≤ 122) || decide (48 ≤ c ∧ c ≤ 57) || c == 63 || c == 42

def validL (p : List UInt8) : Bool := decide (1 ≤ p.length) && decide (p.length ≤ 12) && p.all (fun b => mayB b.toNat)

/-- A star takes some bytes at the text's head, f the rest. -/
def starB (f : List UInt8 → Bool) : List UInt8 → Bool
  | [] => f []
  | b :: t => f (b :: t) || starB f t

/-- Can the text be cut as the pattern wants? -/
def cutB : List UInt8 → List UInt8 → Bool
  | [], t => t.isEmpty
  | c :: p, t => if c = 42 then starB (cutB p) t else match t with
    | [] => false
    | b :: t' => (c == 63 || c == b) && cutB p t'

theorem starB_iff (f : List UInt8 → Bool) (t : List UInt8) : starB f t = true ↔ ∃ t1 t2, t = t1 ++ t2 ∧ f t2 = true := by
  induction t with
  | nil =>
    simp only [starB]
    constructor
    · intro h; exact ⟨[], [], rfl, h⟩
    · rintro ⟨t1, t2, h, h2⟩
      have := List.append_eq_nil_iff.1 h.symm
      rw [this.2] at h2; exact h2
  | cons b t ih =>
    simp only [starB, Bool.or_eq_true, ih]
    constructor
    · rintro (h | ⟨t1, t2, rfl, h⟩)
      · exact ⟨[], b :: t, rfl, h⟩
      · exact ⟨b :: t1, t2, rfl, h⟩
    · rintro ⟨t1, t2, h, h2⟩
      cases t1 with
      | nil => left; rw [h]; exact h2
      | cons x t1 =>
        right
        simp only [List.cons_append, List.cons.injEq] at h
        exact ⟨t1, t2, h.2, h2⟩

/-- What one byte of a pattern takes. -/
theorem cutB_one (c : UInt8) (t : List UInt8) : cutB [c] t = true ↔ c = 42 ∨ ∃ b, t = [b] ∧ (c = 63 ∨ c = b) := by
  by_cases h : c = 42
  · simp only [cutB, h, if_true, true_or, iff_true, starB_iff]
    exact ⟨t, [], by simp, rfl⟩
  · simp only [cutB, h, if_false, false_or]
    match t with
    | [] => simp
    | [b] => simp
    | b :: b' :: t => simp

theorem cutB_append (p q t : List UInt8) : cutB (p ++ q) t = true ↔ ∃ t1 t2, t = t1 ++ t2 ∧ cutB p t1 = true ∧ cutB q t2 = true := by
  induction p generalizing t with
  | nil =>
    simp only [List.nil_append, cutB, List.isEmpty_iff]
    constructor
    · intro h; exact ⟨[], t, rfl, rfl, h⟩
    · rintro ⟨t1, t2, rfl, rfl, h⟩; exact h
  | cons c p ih =>
    by_cases h : c = 42
    · simp only [List.cons_append, cutB, h, if_true, starB_iff]
      constructor
      · rintro ⟨a, b, rfl, hb⟩
        obtain ⟨t1, t2, rfl, h1, h2⟩ := (ih b).1 hb
        exact ⟨a ++ t1, t2, by simp, ⟨a, t1, rfl, h1⟩, h2⟩
      · rintro ⟨t1, t2, rfl, ⟨a, b, rfl, hb⟩, h2⟩
        exact ⟨a, b ++ t2, by simp, (ih _).2 ⟨b, t2, rfl, hb, h2⟩⟩
    · simp only [List.cons_append, cutB, h, if_false]
      cases t with
      | nil =>
        simp only [Bool.false_eq_true, false_iff]
        rintro ⟨t1, t2, h1, h2, _⟩
        rw [(List.append_eq_nil_iff.1 h1.symm).1] at h2
        simp at h2
      | cons b t =>
        simp only [Bool.and_eq_true, ih]
        constructor
        · rintro ⟨hc, t1, t2, rfl, h1, h2⟩
          exact ⟨b :: t1, t2, rfl, by simpa using ⟨by simpa using hc, h1⟩, h2⟩
        · rintro ⟨t1, t2, h1, h2, h3⟩
          cases t1 with
          | nil => simp at h2
          | cons x t1 =>
            simp only [List.cons_append, List.cons.injEq] at h1
            obtain ⟨rfl, rfl⟩ := h1
            simp only [Bool.and_eq_true] at h2
            exact ⟨h2.1, t1, t2, rfl, h2.2, h3⟩

theorem cutB_nil_snoc (t : List UInt8) (b : UInt8) : cutB [] (t ++ [b]) = false := by simp [cutB]
theorem cutB_snoc_star (p t : List UInt8) (b : UInt8) : cutB (p ++ [42]) (t ++ [b]) = (cutB p (t ++ [b]) || cutB (p ++ [42]) t) := by
  rw [Bool.eq_iff_iff, Bool.or_eq_true, cutB_append, cutB_append]
  constructor
  · rintro ⟨t1, t2, h, h1, _⟩
    rcases List.eq_nil_or_concat t2 with rfl | ⟨t2', x, rfl⟩
    · left; rw [h]; simpa using h1
    · right
      have h' : t ++ [b] = (t1 ++ t2') ++ [x] := by simpa using h
      have := List.append_inj' h' rfl
      exact ⟨t1, t2', this.1, h1, (cutB_one _ _).2 (Or.inl rfl)⟩
  · rintro (h | ⟨t1, t2, rfl, h1, _⟩)
    · exact ⟨t ++ [b], [], by simp, h, (cutB_one _ _).2 (Or.inl rfl)⟩
    · exact ⟨t1, t2 ++ [b], by simp, h1, (cutB_one _ _).2 (Or.inl rfl)⟩
theorem cutB_snoc_one (p t : List UInt8) (c b : UInt8) (h : c ≠ 42) : cutB (p ++ [c]) (t ++ [b]) = ((c == 63 || c == b) && cutB p t) := by
  rw [Bool.eq_iff_iff, cutB_append, Bool.and_eq_true]
  constructor
  · rintro ⟨t1, t2, h', h1, h2⟩
    rcases (cutB_one _ _).1 h2 with h2 | ⟨x, rfl, hx⟩
    · exact absurd h2 h
    · have := List.append_inj' h' rfl
      obtain ⟨rfl, h3⟩ := this
      simp only [List.cons.injEq, and_true] at h3
      subst h3
      exact ⟨by simpa using hx, h1⟩
  · rintro ⟨hc, h1⟩
    exact ⟨t, [b], rfl, h1, (cutB_one _ _).2 (Or.inr ⟨b, rfl, by simpa using hc⟩)⟩
theorem cutB_snoc_nil (p : List UInt8) (c : UInt8) : cutB (p ++ [c]) [] = (cutB p [] && c == 42) := by
  rw [Bool.eq_iff_iff, cutB_append, Bool.and_eq_true]
  constructor
  · rintro ⟨t1, t2, h, h1, h2⟩
    obtain ⟨rfl, rfl⟩ := List.append_eq_nil_iff.1 h.symm
    rcases (cutB_one _ _).1 h2 with h2 | ⟨x, h3, _⟩
    · exact ⟨h1, by simpa using h2⟩
    · simp at h3
  · rintro ⟨h1, h2⟩
    exact ⟨[], [], rfl, h1, (cutB_one _ _).2 (Or.inl (by simpa using h2))⟩

/-- The first k + 1 of the 13 cells: can the text be cut into pieces of the pattern's first n bytes? -/
def vecTo (p t : List UInt8) (k : Nat) : List Bool := (List.range 13).map fun n => decide (n ≤ k) && cutB (p.take n) t
theorem vecTo_length (p t : List UInt8) (k : Nat) : (vecTo p t k).length = 13 := by simp [vecTo]
theorem vecTo_get (p t : List UInt8) (k n : Nat) (h : n < 13) : (vecTo p t k)[n]? = some (decide (n ≤ k) && cutB (p.take n) t) := by
  simp [vecTo, h]
theorem vecTo_set (p t : List UInt8) (k : Nat) (h : k < 12) : (vecTo p t k).set (k + 1) (cutB (p.take (k + 1)) t) = vecTo p t (k + 1) := by
  apply List.ext_getElem?
  intro n
  rw [List.getElem?_set]
  by_cases hn : n < 13
  · rw [vecTo_get _ _ _ _ hn, vecTo_get _ _ _ _ hn, vecTo_length]
    by_cases e : k + 1 = n
    · subst e; simp [h]
    · rw [if_neg e]
      have : decide (n ≤ k) = decide (n ≤ k + 1) := by rw [decide_eq_decide]; omega
      rw [this]
  · have h1 : (vecTo p t k).length ≤ n := by rw [vecTo_length]; omega
    have h2 : (vecTo p t (k + 1)).length ≤ n := by rw [vecTo_length]; omega
    rw [List.getElem?_eq_none h1, List.getElem?_eq_none h2, if_neg (by omega)]
theorem take_snocL (p : List UInt8) (k : Nat) (h : k < p.length) : p.take (k + 1) = p.take k ++ [p[k]] := List.take_succ_eq_append_getElem h
end Veil
