/- The order of a configuration that is right: what Lattice asks. No walk here. -/
import Derived.Test.YtgigkiocdiffjaaBridge
namespace Go.Proofs.Ytgigkiocdiffjaa
open Go.RowKit Veil
structure Right (c : Cfg) : Prop where
  labels : labelsB c = true
  circle : ¬ c.circle
  lat : ¬ c.noLat
theorem right_of {c : Cfg} (h : CheckIs c 0) : Right c := by
  obtain ⟨h1, h2, h3⟩ := h.right rfl
  exact ⟨h1, h2, h3⟩
theorem le_path {c : Cfg} (h : Right c) (a b : Nat) (ha : a < c.n) : c.le a b = true ↔ PathE c.edges a b := by
  obtain ⟨_, _, _, hE, _, _, _⟩ := labels_of h.labels
  have := leB_iff c.edges c.n hE a b (by simpa using ha)
  simpa [Cfg.le] using this
theorem le_trans' {c : Cfg} (h : Right c) {a b d : Nat} (ha : a < c.n) (hb : b < c.n) (h1 : c.le a b = true) (h2 : c.le b d = true) : c.le a d = true :=
  (le_path h a d ha).2 (((le_path h a b ha).1 h1).trans ((le_path h b d hb).1 h2))
theorem le_anti {c : Cfg} (h : Right c) {a b : Nat} (ha : a < c.n) (hb : b < c.n) (hne : a ≠ b) : (c.le a b && c.le b a) = false := by
  cases h1 : c.le a b
  · rfl
  · cases h2 : c.le b a
    · rfl
    · exact absurd ⟨a, b, ha, hb, hne, h1, h2⟩ h.circle
theorem le_edge {c : Cfg} (h : Right c) (e : Int × Int) (he : e ∈ c.edges) : c.le e.1 e.2 = true := by
  obtain ⟨_, _, _, hE, _, _, _⟩ := labels_of h.labels
  obtain ⟨h1, h2, h3, h4⟩ := hE e he
  refine (leB_iff c.edges c.n hE e.1 e.2 (by omega)).2 ?_
  exact (PathE.refl _ _).snoc he
theorem path_first {E : List (Int × Int)} {a : Nat} : ∀ (k : Nat) {b : Nat}, pathN E a (k + 1) b → ∃ e, e ∈ E ∧ e.1.toNat = a ∧ PathE E e.2.toNat b
  | 0, _, ⟨e, he, h, hb⟩ => ⟨e, he, Eq.symm h, by rw [← hb]; exact PathE.refl _ _⟩
  | k + 1, _, ⟨e, he, h, hb⟩ => by
    obtain ⟨f, hf, h1, h2⟩ := path_first k h
    exact ⟨f, hf, h1, by rw [← hb]; exact h2.snoc he⟩
/-- Is there an edge from a to something that is at most b? -/
def stepB (c : Cfg) (a b : Int) (E : List (Int × Int)) : Bool := E.any fun e => (e.1 == a) && c.le e.2 b
theorem step_true {c : Cfg} (h : Right c) {a b : Nat} (ha : a < c.n) (hne : a ≠ b) (hle : c.le a b = true) : stepB c a b c.edges = true := by
  obtain ⟨_, _, _, hE, _, _, _⟩ := labels_of h.labels
  obtain ⟨k, hk⟩ := (le_path h a b ha).1 hle
  cases k with
  | zero => exact absurd hk hne
  | succ k =>
    obtain ⟨e, he, h1, h2⟩ := path_first k hk
    obtain ⟨g1, g2, g3, g4⟩ := hE e he
    refine List.any_eq_true.2 ⟨e, he, ?_⟩
    have e1 : e.1 = a := by omega
    have : c.le e.2 b = true := (leB_iff c.edges c.n hE e.2 b (by omega)).2 (by simpa using h2)
    simp [e1, this]
theorem join_is {c : Cfg} (h : Right c) (a b : Nat) (ha : a < c.n) (hb : b < c.n) : ∃ j : Nat, j < c.n ∧ c.join a b = j ∧ c.le a j = true ∧ c.le b j = true ∧ ∀ k : Nat, k < c.n → c.le a k = true → c.le b k = true → c.le j k = true := by
  have hpos : 0 ≤ c.join a b := Int.not_lt.1 fun h' => h.lat ⟨a, b, ha, hb, Or.inl h'⟩
  rcases firstN_cases (c.isJoin a b) c.n with ⟨j, hj, h1, _, h3⟩ | ⟨_, h2⟩
  · simp only [Cfg.isJoin, Cfg.up, Bool.and_eq_true, List.all_eq_true, List.mem_range, Bool.not_eq_true', Bool.and_eq_false_iff] at h1
    refine ⟨j, hj, h3, h1.1.1, h1.1.2, fun k hk ka kb => ?_⟩
    have := h1.2 k hk
    simpa [ka, kb] using this
  · have : c.join a b = -1 := h2
    omega
theorem meet_is {c : Cfg} (h : Right c) (a b : Nat) (ha : a < c.n) (hb : b < c.n) : ∃ j : Nat, j < c.n ∧ c.meet a b = j ∧ c.le j a = true ∧ c.le j b = true ∧ ∀ k : Nat, k < c.n → c.le k a = true → c.le k b = true → c.le k j = true := by
  have hpos : 0 ≤ c.meet a b := Int.not_lt.1 fun h' => h.lat ⟨a, b, ha, hb, Or.inr h'⟩
  rcases firstN_cases (c.isMeet a b) c.n with ⟨j, hj, h1, _, h3⟩ | ⟨_, h2⟩
  · simp only [Cfg.isMeet, Cfg.down, Bool.and_eq_true, List.all_eq_true, List.mem_range, Bool.not_eq_true', Bool.and_eq_false_iff] at h1
    refine ⟨j, hj, h3, h1.1.1, h1.1.2, fun k hk ka kb => ?_⟩
    have := h1.2 k hk
    simpa [ka, kb] using this
  · have : c.meet a b = -1 := h2
    omega
end Go.Proofs.Ytgigkiocdiffjaa
