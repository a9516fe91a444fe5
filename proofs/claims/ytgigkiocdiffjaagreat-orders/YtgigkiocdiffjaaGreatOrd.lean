/- Labels and their order, plainly: edges, what they lead to, a table of it. No Go here. -/
namespace Veil
def okL (L a : Int) : Bool := decide (0 ≤ a) && decide (a < L)
/-- One edge. -/
def relax (A : List Bool) (e : Int × Int) : List Bool := if A.getD e.1.toNat false = true then A.set e.2.toNat true else A
def relaxAll (E : List (Int × Int)) (A : List Bool) : List Bool := E.foldl relax A
def roundsL (E : List (Int × Int)) : Nat → List Bool → List Bool
  | 0, A => A
  | n + 1, A => relaxAll E (roundsL E n A)
def startL (n : Nat) (a : Int) : List Bool := (List.replicate n false).set a.toNat true
/-- The document's own way: what a is at most, found edge by edge. -/
def leB (E : List (Int × Int)) (n : Nat) (a b : Int) : Bool := (roundsL E n (startL n a)).getD b.toNat false

/-- The edges keep the bounds. -/
def inE (E : List (Int × Int)) (n : Nat) : Prop := ∀ e, e ∈ E → 0 ≤ e.1 ∧ e.1 < n ∧ 0 ≤ e.2 ∧ e.2 < n
/-- Some edges lead from a to b. -/
def pathN (E : List (Int × Int)) (a : Nat) : Nat → Nat → Prop
  | 0, b => a = b
  | k + 1, b => ∃ e, e ∈ E ∧ pathN E a k e.1.toNat ∧ e.2.toNat = b
def PathE (E : List (Int × Int)) (a b : Nat) : Prop := ∃ k, pathN E a k b
theorem PathE.refl (E : List (Int × Int)) (a : Nat) : PathE E a a := ⟨0, rfl⟩
theorem PathE.snoc {E : List (Int × Int)} {a : Nat} {e : Int × Int} (h : PathE E a e.1.toNat) (he : e ∈ E) : PathE E a e.2.toNat := by
  obtain ⟨k, h⟩ := h; exact ⟨k + 1, e, he, h, rfl⟩
theorem PathE.trans {E : List (Int × Int)} {a b c : Nat} (h : PathE E a b) (h' : PathE E b c) : PathE E a c := by
  obtain ⟨k, h'⟩ := h'
  induction k generalizing c with
  | zero => cases h'; exact h
  | succ k ih =>
    obtain ⟨e, he, hp, rfl⟩ := h'
    exact (ih hp).snoc he

/-! ### The document's way -/
theorem relax_length (A : List Bool) (e : Int × Int) : (relax A e).length = A.length := by unfold relax; split <;> simp
theorem relaxAll_length (E : List (Int × Int)) (A : List Bool) : (relaxAll E A).length = A.length := by
  induction E generalizing A with
  | nil => rfl
  | cons e E ih => simp only [relaxAll, List.foldl_cons]; rw [← relaxAll, ih, relax_length]
theorem roundsL_length (E : List (Int × Int)) (n : Nat) (A : List Bool) : (roundsL E n A).length = A.length := by
  induction n with
  | zero => rfl
  | succ n ih => rw [roundsL, relaxAll_length, ih]
def leA (A B : List Bool) : Prop := ∀ i, A.getD i false = true → B.getD i false = true
theorem leA.trans {A B C : List Bool} (h : leA A B) (h' : leA B C) : leA A C := fun i hi => h' i (h i hi)
theorem getD_set (A : List Bool) (j i : Nat) : (A.set j true).getD i false = (A.getD i false || (decide (i = j) && decide (j < A.length))) := by
  simp only [List.getD, List.getElem?_set]
  by_cases h : j = i
  · subst h
    by_cases hl : j < A.length
    · simp [hl]
    · simp [hl]
  · rw [if_neg h]
    have : ¬ i = j := fun e => h e.symm
    simp [this]
theorem relax_le (A : List Bool) (e : Int × Int) : leA A (relax A e) := by
  intro i hi
  unfold relax
  split
  · rw [getD_set, hi]; rfl
  · exact hi
theorem relaxAll_le (E : List (Int × Int)) (A : List Bool) : leA A (relaxAll E A) := by
  induction E generalizing A with
  | nil => exact fun i h => h
  | cons e E ih => exact (relax_le A e).trans (ih _)
theorem roundsL_le (E : List (Int × Int)) (n : Nat) (A : List Bool) : leA A (roundsL E n A) := by
  induction n with
  | zero => exact fun i h => h
  | succ n ih => exact ih.trans (relaxAll_le E _)
theorem leA.antisymm {A B : List Bool} (h : leA A B) (h' : leA B A) (hl : A.length = B.length) : A = B := by
  apply List.ext_getElem hl
  intro i h1 h2
  have e1 : A.getD i false = A[i] := by simp [h1]
  have e2 : B.getD i false = B[i] := by simp [h2]
  have g1 := h i
  have g2 := h' i
  rw [e1, e2] at g1 g2
  cases ha : A[i] <;> cases hb : B[i] <;> simp_all
/-- Where a round adds nothing, nothing is led to that is not there. -/
theorem closed_of_stable (E : List (Int × Int)) (A : List Bool) (h : relaxAll E A = A) (e : Int × Int) (he : e ∈ E) (hl : e.2.toNat < A.length) (h1 : A.getD e.1.toNat false = true) : A.getD e.2.toNat false = true := by
  induction E generalizing A with
  | nil => cases he
  | cons f E ih =>
    simp only [relaxAll, List.foldl_cons] at h
    rw [← relaxAll] at h
    have hf : relax A f = A := by
      refine leA.antisymm ?_ (relax_le A f) (relax_length A f)
      have := relaxAll_le E (relax A f)
      rwa [h] at this
    rcases List.mem_cons.1 he with rfl | he
    · unfold relax at hf
      rw [if_pos h1] at hf
      have := getD_set A e.2.toNat e.2.toNat
      rw [hf] at this
      rw [this]; simp [hl]
    · rw [hf] at h
      exact ih A h he hl h1
def cnt (A : List Bool) : Nat := (A.filter id).length
theorem cnt_lt {A B : List Bool} (h : leA A B) (hl : A.length = B.length) (hne : A ≠ B) : cnt A < cnt B := by
  induction A generalizing B with
  | nil => cases B with
    | nil => exact absurd rfl hne
    | cons b B => simp at hl
  | cons a A ih => cases B with
    | nil => simp at hl
    | cons b B =>
      have h0 : a = true → b = true := by simpa using h 0
      have hr : leA A B := fun i hi => by simpa using h (i + 1) (by simpa using hi)
      have hl' : A.length = B.length := by simpa using hl
      by_cases e : A = B
      · subst e
        cases a <;> cases b <;> simp_all [cnt]
      · have := ih hr hl' e
        clear ih h hne e hl hr
        unfold cnt at *
        cases a <;> cases b <;> simp_all <;> omega
theorem cnt_le (A : List Bool) : cnt A ≤ A.length := List.length_filter_le _ _
theorem roundsL_stable (E : List (Int × Int)) (n : Nat) (A : List Bool) (hA : 1 ≤ cnt A) : relaxAll E (roundsL E n A) = roundsL E n A ∨ n + 1 ≤ cnt (roundsL E n A) := by
  induction n with
  | zero => right; simpa [roundsL] using hA
  | succ n ih =>
    by_cases hs : relaxAll E (roundsL E (n + 1) A) = roundsL E (n + 1) A
    · exact Or.inl hs
    · right
      rcases ih with h | h
      · exfalso; apply hs; rw [roundsL, h, h]
      · by_cases e : relaxAll E (roundsL E n A) = roundsL E n A
        · exfalso; apply hs; rw [roundsL, e, e]
        · have := cnt_lt (relaxAll_le E (roundsL E n A)) (relaxAll_length E _).symm (fun h => e h.symm)
          rw [roundsL]; omega
theorem startL_length (n : Nat) (a : Int) : (startL n a).length = n := by simp [startL]
theorem startL_get (n : Nat) (a : Int) (i : Nat) : (startL n a).getD i false = (decide (i = a.toNat) && decide (a.toNat < n)) := by
  unfold startL
  rw [getD_set]
  simp [List.getD, List.getElem?_replicate]
  split <;> simp
theorem startL_cnt (n : Nat) (a : Int) (h : a.toNat < n) : 1 ≤ cnt (startL n a) := by
  unfold cnt
  have : true ∈ (startL n a).filter id := by
    rw [List.mem_filter]
    refine ⟨?_, rfl⟩
    have h1 : (startL n a)[a.toNat]'(by rw [startL_length]; exact h) = true := by simp [startL]
    rw [← h1]; exact List.getElem_mem _
  exact List.length_pos_of_mem this
theorem stableL (E : List (Int × Int)) (n : Nat) (a : Int) (h : a.toNat < n) : relaxAll E (roundsL E n (startL n a)) = roundsL E n (startL n a) := by
  rcases roundsL_stable E n (startL n a) (startL_cnt n a h) with h' | h'
  · exact h'
  · have := cnt_le (roundsL E n (startL n a))
    rw [roundsL_length, startL_length] at this
    omega
theorem relax_sound (E : List (Int × Int)) (a : Nat) (A : List Bool) (e : Int × Int) (he : e ∈ E) (h : ∀ i, A.getD i false = true → PathE E a i) : ∀ i, (relax A e).getD i false = true → PathE E a i := by
  intro i hi
  unfold relax at hi
  split at hi
  · rename_i h1
    rw [getD_set] at hi
    simp only [Bool.or_eq_true, Bool.and_eq_true, decide_eq_true_eq] at hi
    rcases hi with hi | ⟨rfl, _⟩
    · exact h i hi
    · exact (h _ h1).snoc he
  · exact h i hi
theorem relaxAll_sound (E F : List (Int × Int)) (hF : ∀ e, e ∈ F → e ∈ E) (a : Nat) (A : List Bool) (h : ∀ i, A.getD i false = true → PathE E a i) : ∀ i, (relaxAll F A).getD i false = true → PathE E a i := by
  induction F generalizing A with
  | nil => exact h
  | cons e F ih =>
    simp only [relaxAll, List.foldl_cons]
    exact ih (fun x hx => hF x (List.mem_cons_of_mem _ hx)) _ (relax_sound E a A e (hF e (List.mem_cons_self ..)) h)
theorem roundsL_sound (E : List (Int × Int)) (n m : Nat) (a : Int) (i : Nat) (h : (roundsL E m (startL n a)).getD i false = true) : PathE E a.toNat i := by
  induction m generalizing i with
  | zero =>
    rw [roundsL, startL_get] at h
    simp only [Bool.and_eq_true, decide_eq_true_eq] at h
    rw [h.1]; exact PathE.refl _ _
  | succ m ih => exact relaxAll_sound E E (fun _ h => h) a.toNat _ ih i h
theorem leB_iff (E : List (Int × Int)) (n : Nat) (hE : inE E n) (a b : Int) (ha : a.toNat < n) : leB E n a b = true ↔ PathE E a.toNat b.toNat := by
  constructor
  · exact roundsL_sound E n n a _
  · rintro ⟨k, hk⟩
    have key : ∀ k c, pathN E a.toNat k c → (roundsL E n (startL n a)).getD c false = true := by
      intro k
      induction k with
      | zero =>
        intro c hc
        cases hc
        refine roundsL_le E n _ _ ?_
        rw [startL_get]; simp [ha]
      | succ k ih =>
        rintro c ⟨e, he, hp, rfl⟩
        refine closed_of_stable E _ (stableL E n a ha) e he ?_ (ih _ hp)
        rw [roundsL_length, startL_length]
        have := hE e he; omega
    exact key k _ hk

/-! ### A table -/
def fwStep (k : Nat) (f : Nat → Nat → Bool) (a b : Nat) : Bool := f a b || (f a k && f k b)
def fw (f : Nat → Nat → Bool) : Nat → Nat → Nat → Bool
  | 0 => f
  | k + 1 => fwStep k (fw f k)
def fwInit (E : List (Int × Int)) (a b : Nat) : Bool := decide (a = b) || E.any fun e => decide (e.1.toNat = a) && decide (e.2.toNat = b)
def leM (E : List (Int × Int)) (n : Nat) (a b : Nat) : Bool := fw (fwInit E) n a b
theorem fw_mono (f : Nat → Nat → Bool) (k a b : Nat) (h : f a b = true) : fw f k a b = true := by
  induction k with
  | zero => exact h
  | succ k ih => simp [fw, fwStep, ih]
theorem fw_trans (f : Nat → Nat → Bool) (k : Nat) : ∀ m, m < k → ∀ a b, fw f k a m = true → fw f k m b = true → fw f k a b = true := by
  induction k with
  | zero => intro m hm; omega
  | succ k ih =>
    intro m hm a b h1 h2
    simp only [fw, fwStep, Bool.or_eq_true, Bool.and_eq_true] at h1 h2 ⊢
    by_cases e : m = k
    · subst e
      have g1 : fw f m a m = true := h1.elim id And.left
      have g2 : fw f m m b = true := h2.elim id And.right
      exact Or.inr ⟨g1, g2⟩
    · have hm' : m < k := by omega
      rcases h1 with h1 | h1 <;> rcases h2 with h2 | h2
      · exact Or.inl (ih m hm' a b h1 h2)
      · exact Or.inr ⟨ih m hm' a k h1 h2.1, h2.2⟩
      · exact Or.inr ⟨h1.1, ih m hm' k b h1.2 h2⟩
      · exact Or.inr ⟨h1.1, h2.2⟩
theorem fw_sound (E : List (Int × Int)) (k a b : Nat) (h : fw (fwInit E) k a b = true) : PathE E a b := by
  induction k generalizing a b with
  | zero =>
    simp only [fw, fwInit, Bool.or_eq_true, decide_eq_true_eq, List.any_eq_true, Bool.and_eq_true] at h
    rcases h with rfl | ⟨e, he, rfl, rfl⟩
    · exact PathE.refl _ _
    · exact (PathE.refl E e.1.toNat).snoc he
  | succ k ih =>
    simp only [fw, fwStep, Bool.or_eq_true, Bool.and_eq_true] at h
    rcases h with h | h
    · exact ih _ _ h
    · exact (ih _ _ h.1).trans (ih _ _ h.2)
theorem leM_iff (E : List (Int × Int)) (n : Nat) (hE : inE E n) (a b : Nat) : leM E n a b = true ↔ PathE E a b := by
  constructor
  · exact fw_sound E n a b
  · rintro ⟨k, hk⟩
    induction k generalizing b with
    | zero => cases hk; exact fw_mono _ _ _ _ (by simp [fwInit])
    | succ k ih =>
      obtain ⟨e, he, hp, rfl⟩ := hk
      refine fw_trans _ n e.1.toNat (by have := hE e he; omega) _ _ (ih _ hp) ?_
      refine fw_mono _ _ _ _ ?_
      simp only [fwInit, Bool.or_eq_true, List.any_eq_true, Bool.and_eq_true, decide_eq_true_eq]
      exact Or.inr ⟨e, he, rfl, rfl⟩
theorem leM_leB (E : List (Int × Int)) (n : Nat) (hE : inE E n) (a b : Int) (ha : a.toNat < n) : leM E n a.toNat b.toNat = leB E n a b := by
  rw [Bool.eq_iff_iff, leM_iff E n hE, leB_iff E n hE a b ha]
end Veil
