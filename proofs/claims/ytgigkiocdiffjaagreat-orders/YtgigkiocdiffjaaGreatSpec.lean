/- Configurations, plainly: which are right (P3), and their order (P4). No Go here. -/
import Derived.Test.YtgigkiocdiffjaaGreatPure
import Derived.Test.YtgigkiocdiffjaaGreatOrd
namespace Veil
/-- A configuration. -/
structure Cfg where
  labels : Int
  edges : List (Int × Int)
  rules : List (ByteArray × Int)
  grants : List (Int × Int)
def edgeOk (L : Int) (e : Int × Int) : Bool := okL L e.1 && okL L e.2 && !(e.1 == e.2)
def labelsB (c : Cfg) : Bool := decide (1 ≤ c.labels) && decide (c.labels ≤ 6) && decide (c.edges.length ≤ 30) && c.edges.all (edgeOk c.labels)
def Cfg.n (c : Cfg) : Nat := c.labels.toNat
def Cfg.le (c : Cfg) (a b : Int) : Bool := leB c.edges c.n a b
/-- The first number below n of which p is true; -1: there is none. -/
def firstN (p : Nat → Bool) (n : Nat) : Int := match (List.range n).find? p with
  | some j => j
  | none => -1
theorem firstN_yes {p : Nat → Bool} {n j : Nat} (hj : j < n) (h : p j = true) (hno : ∀ i, i < j → p i = false) : firstN p n = j := by
  unfold firstN
  have : (List.range n).find? p = some j := by
    rw [List.find?_eq_some_iff_getElem]
    refine ⟨h, j, by simpa using hj, by simp, fun i hi => ?_⟩
    simp [hno i hi]
  rw [this]
theorem firstN_no {p : Nat → Bool} {n : Nat} (hno : ∀ i, i < n → p i = false) : firstN p n = -1 := by
  unfold firstN
  have : (List.range n).find? p = none := by
    rw [List.find?_eq_none]
    intro i hi
    simp [hno i (by simpa using hi)]
  rw [this]
theorem firstN_cases (p : Nat → Bool) (n : Nat) : (∃ j, j < n ∧ p j = true ∧ (∀ i, i < j → p i = false) ∧ firstN p n = j) ∨ ((∀ i, i < n → p i = false) ∧ firstN p n = -1) := by
  by_cases h : ∃ j, j < n ∧ p j = true
  · left
    have : ∀ m, (∃ j, j < m ∧ j < n ∧ p j = true) → ∃ j, j < n ∧ p j = true ∧ ∀ i, i < j → p i = false := by
      intro m
      induction m with
      | zero => rintro ⟨j, hj, _⟩; omega
      | succ m ih =>
        rintro ⟨j, hj, hn, hp⟩
        by_cases e : ∃ i, i < m ∧ i < n ∧ p i = true
        · exact ih e
        · refine ⟨j, hn, hp, fun i hi => ?_⟩
          cases hpi : p i with
          | false => rfl
          | true => exact absurd ⟨i, by omega, by omega, hpi⟩ e
    obtain ⟨j, hj, hp⟩ := h
    obtain ⟨j', h1, h2, h3⟩ := this n ⟨j, hj, hj, hp⟩
    exact ⟨j', h1, h2, h3, firstN_yes h1 h2 h3⟩
  · right
    have : ∀ i, i < n → p i = false := fun i hi => by
      cases hpi : p i with
      | false => rfl
      | true => exact absurd ⟨i, hi, hpi⟩ h
    exact ⟨this, firstN_no this⟩
def Cfg.up (c : Cfg) (a b j : Int) : Bool := c.le a j && c.le b j
def Cfg.down (c : Cfg) (a b j : Int) : Bool := c.le j a && c.le j b
def Cfg.isJoin (c : Cfg) (a b : Int) (j : Nat) : Bool := c.up a b j && (List.range c.n).all fun k => !(c.up a b k && !c.le j k)
def Cfg.isMeet (c : Cfg) (a b : Int) (j : Nat) : Bool := c.down a b j && (List.range c.n).all fun k => !(c.down a b k && !c.le k j)
def Cfg.join (c : Cfg) (a b : Int) : Int := firstN (c.isJoin a b) c.n
def Cfg.meet (c : Cfg) (a b : Int) : Int := firstN (c.isMeet a b) c.n
def Cfg.circle (c : Cfg) : Prop := ∃ a b : Nat, a < c.n ∧ b < c.n ∧ a ≠ b ∧ c.le a b = true ∧ c.le b a = true
def Cfg.noLat (c : Cfg) : Prop := ∃ a b : Nat, a < c.n ∧ b < c.n ∧ (c.join a b < 0 ∨ c.meet a b < 0)
def sameS (a b : ByteArray) : Bool := a.toList == b.toList
def ruleOk (c : Cfg) (i : Nat) (r : ByteArray × Int) : Bool := validL r.1.data.toList && okL c.labels r.2 && (c.rules.take i).all fun q => !sameS q.1 r.1
def rulesToB (c : Cfg) : Nat → Bool
  | 0 => true
  | k + 1 => rulesToB c k && match c.rules[k]? with
    | some r => ruleOk c k r
    | none => true
theorem rulesToB_succ (c : Cfg) (k : Nat) (r : ByteArray × Int) (h : c.rules[k]? = some r) : rulesToB c (k + 1) = (rulesToB c k && ruleOk c k r) := by rw [rulesToB, h]
theorem rulesToB_false (c : Cfg) (k m : Nat) (h : rulesToB c k = false) (hm : k ≤ m) : rulesToB c m = false := by
  induction m with
  | zero =>
    obtain rfl : k = 0 := by omega
    exact h
  | succ m ih =>
    by_cases e : k = m + 1
    · rw [← e]; exact h
    · rw [rulesToB, ih (by omega)]; rfl
def rulesB (c : Cfg) : Bool := decide (c.rules.length ≤ 8) && rulesToB c c.rules.length
def grantOk (c : Cfg) (g : Int × Int) : Bool := okL c.labels g.1 && okL c.labels g.2 && !(g.1 == g.2) && c.le g.2 g.1
def grantsB (c : Cfg) : Bool := decide (c.grants.length ≤ 30) && c.grants.all (grantOk c)
/-- What Check answers. -/
structure CheckIs (c : Cfg) (e : Int) : Prop where
  one : labelsB c = false → e = 1
  two : labelsB c = true → c.circle → e = 2
  three : labelsB c = true → ¬ c.circle → c.noLat → e = 3
  four : labelsB c = true → ¬ c.circle → ¬ c.noLat → rulesB c = false → e = 4
  five : labelsB c = true → ¬ c.circle → ¬ c.noLat → rulesB c = true → grantsB c = false → e = 5
  ok : labelsB c = true → ¬ c.circle → ¬ c.noLat → rulesB c = true → grantsB c = true → e = 0
theorem CheckIs.same {c : Cfg} {e f : Int} (h : CheckIs c e) (h' : CheckIs c f) : e = f := by
  cases hl : labelsB c with
  | false => rw [h.one hl, h'.one hl]
  | true =>
    by_cases h1 : c.circle
    · rw [h.two hl h1, h'.two hl h1]
    by_cases h2 : c.noLat
    · rw [h.three hl h1 h2, h'.three hl h1 h2]
    cases h3 : rulesB c with
    | true =>
      cases h4 : grantsB c with
      | true => rw [h.ok hl h1 h2 h3 h4, h'.ok hl h1 h2 h3 h4]
      | false => rw [h.five hl h1 h2 h3 h4, h'.five hl h1 h2 h3 h4]
    | false => rw [h.four hl h1 h2 h3, h'.four hl h1 h2 h3]
theorem CheckIs.right {c : Cfg} {e : Int} (h : CheckIs c e) (he : e = 0) : labelsB c = true ∧ ¬ c.circle ∧ ¬ c.noLat := by
  cases hl : labelsB c with
  | false => rw [h.one hl] at he; exact absurd he (by omega)
  | true =>
    refine ⟨rfl, fun h1 => ?_, fun h2 => ?_⟩
    · rw [h.two hl h1] at he; exact absurd he (by omega)
    · by_cases h1 : c.circle
      · rw [h.two hl h1] at he; exact absurd he (by omega)
      · rw [h.three hl h1 h2] at he; exact absurd he (by omega)
/-- What the labels' bounds give. -/
theorem labels_of {c : Cfg} (h : labelsB c = true) : 1 ≤ c.labels ∧ c.labels ≤ 6 ∧ c.edges.length ≤ 30 ∧ inE c.edges c.n ∧ (c.n : Int) = c.labels ∧ c.n ≤ 6 ∧ 1 ≤ c.n := by
  simp only [labelsB, Bool.and_eq_true, decide_eq_true_eq, List.all_eq_true] at h
  obtain ⟨⟨⟨h1, h2⟩, h3⟩, h4⟩ := h
  have hn : (c.n : Int) = c.labels := by unfold Cfg.n; omega
  refine ⟨h1, h2, h3, fun e he => ?_, hn, by omega, by omega⟩
  have := h4 e he
  simp only [edgeOk, okL, Bool.and_eq_true, decide_eq_true_eq] at this
  omega
end Veil
