/- The program's table is the order of the document. No walk here. -/
import Derived.Test.YtgigkiocdiffjaaGreatConfig1
namespace Go.Proofs.YtgigkiocdiffjaaGreat
open Go.RowKit Veil
def tT (c : Cfg) : Nat → Nat → Bool := tabF c.edges c.n c.n
theorem T_le {c : Cfg} (hl : labelsB c = true) (a b : Nat) (ha : a < c.n) (hb : b < c.n) : (tT c) a b = c.le a b := by
  obtain ⟨_, _, _, hE, _, _, _⟩ := labels_of hl
  have := leM_leB c.edges c.n hE (a : Int) (b : Int) (by simpa using ha)
  unfold Cfg.le
  rw [← this]
  simp [tT, tabF, leM, ha, hb]
theorem le_refl' {c : Cfg} (hl : labelsB c = true) (a : Nat) (ha : a < c.n) : c.le a a = true := by
  obtain ⟨_, _, _, hE, _, _, _⟩ := labels_of hl
  exact (leB_iff c.edges c.n hE a a (by simpa using ha)).2 (PathE.refl _ _)
theorem okL_lt {n a : Nat} (h : a < n) : okL n a = true := by simp [okL]; omega
theorem leO_nat (n : Nat) (f : Nat → Nat → Bool) (a b : Nat) (ha : a < n) (hb : b < n) : leO n f a b = f a b := by simp [leO, okL_lt ha, okL_lt hb]
theorem leO_le {c : Cfg} (hl : labelsB c = true) (a b : Nat) (ha : a < c.n) (hb : b < c.n) : leO c.n (tT c) a b = c.le a b := by rw [leO_nat _ _ _ _ ha hb, T_le hl _ _ ha hb]
def tT' (c : Cfg) : Nat → Nat → Bool := turnF c.n (tT c) c.n 0
theorem leO_ge {c : Cfg} (hl : labelsB c = true) (a b : Nat) (ha : a < c.n) (hb : b < c.n) : leO c.n (tT' c) a b = c.le b a := by
  rw [leO_nat _ _ _ _ ha hb, ← T_le hl _ _ hb ha]
  simp [tT', turnF, ha, hb]
theorem firstN_congr {p q : Nat → Bool} {n : Nat} (h : ∀ j, j < n → p j = q j) : firstN p n = firstN q n := by
  rcases firstN_cases q n with ⟨j, hj, h1, h2, h3⟩ | ⟨h1, h2⟩
  · rw [h3]; exact firstN_yes hj (by rw [h j hj]; exact h1) fun i hi => by rw [h i (by omega)]; exact h2 i hi
  · rw [h2]; exact firstN_no fun i hi => by rw [h i hi]; exact h1 i hi
theorem all_range_congr {n : Nat} {p q : Nat → Bool} (h : ∀ j, j < n → p j = q j) : (List.range n).all p = (List.range n).all q := by
  rw [Bool.eq_iff_iff, List.all_eq_true, List.all_eq_true]
  constructor
  · intro hp j hj; rw [← h j (by simpa using hj)]; exact hp j hj
  · intro hp j hj; rw [h j (by simpa using hj)]; exact hp j hj
theorem leastO_join {c : Cfg} (hl : labelsB c = true) (a b : Nat) (ha : a < c.n) (hb : b < c.n) : leastO c.n (tT c) a b = c.join a b := by
  unfold leastO Cfg.join
  apply firstN_congr
  intro j hj
  unfold abvO blwO Cfg.isJoin Cfg.up
  rw [leO_le hl _ _ ha hj, leO_le hl _ _ hb hj]
  congr 1
  apply all_range_congr
  intro k hk
  unfold abvO
  rw [leO_le hl _ _ ha hk, leO_le hl _ _ hb hk, leO_le hl _ _ hj hk]
theorem leastO_meet {c : Cfg} (hl : labelsB c = true) (a b : Nat) (ha : a < c.n) (hb : b < c.n) : leastO c.n (tT' c) a b = c.meet a b := by
  unfold leastO Cfg.meet
  apply firstN_congr
  intro j hj
  unfold abvO blwO Cfg.isMeet Cfg.down
  rw [leO_ge hl _ _ ha hj, leO_ge hl _ _ hb hj]
  congr 1
  apply all_range_congr
  intro k hk
  unfold abvO
  rw [leO_ge hl _ _ ha hk, leO_ge hl _ _ hb hk, leO_ge hl _ _ hj hk]
theorem circle_iff {c : Cfg} (hl : labelsB c = true) : circleO c.n (tT c) ↔ c.circle := by
  constructor
  · rintro ⟨a, b, ha, hb, h1, h2⟩
    exact ⟨a, b, ha, by omega, by omega, by rw [← T_le hl _ _ ha (by omega)]; exact h1, by rw [← T_le hl _ _ (by omega) ha]; exact h2⟩
  · rintro ⟨a, b, ha, hb, hne, h1, h2⟩
    by_cases h : b < a
    · exact ⟨a, b, ha, h, by rw [T_le hl _ _ ha hb]; exact h1, by rw [T_le hl _ _ hb ha]; exact h2⟩
    · exact ⟨b, a, hb, by omega, by rw [T_le hl _ _ hb ha]; exact h2, by rw [T_le hl _ _ ha hb]; exact h1⟩
theorem join_comm (c : Cfg) (a b : Int) : c.join a b = c.join b a := by
  unfold Cfg.join
  apply firstN_congr
  intro j _
  have : ∀ k : Int, c.up a b k = c.up b a k := fun k => by unfold Cfg.up; rw [Bool.and_comm]
  unfold Cfg.isJoin
  simp only [this]
theorem meet_comm (c : Cfg) (a b : Int) : c.meet a b = c.meet b a := by
  unfold Cfg.meet
  apply firstN_congr
  intro j _
  have : ∀ k : Int, c.down a b k = c.down b a k := fun k => by unfold Cfg.down; rw [Bool.and_comm]
  unfold Cfg.isMeet
  simp only [this]
theorem firstN_pos {p : Nat → Bool} {n j : Nat} (hj : j < n) (h : p j = true) : 0 ≤ firstN p n := by
  rcases firstN_cases p n with ⟨i, _, _, _, h3⟩ | ⟨h1, _⟩
  · rw [h3]; omega
  · rw [h1 j hj] at h; simp at h
theorem join_self {c : Cfg} (hl : labelsB c = true) (a : Nat) (ha : a < c.n) : 0 ≤ c.join a a := by
  refine firstN_pos ha ?_
  unfold Cfg.isJoin Cfg.up
  rw [le_refl' hl a ha]
  simp only [Bool.and_self, Bool.true_and, List.all_eq_true]
  intro k _
  cases c.le a k <;> rfl
theorem meet_self {c : Cfg} (hl : labelsB c = true) (a : Nat) (ha : a < c.n) : 0 ≤ c.meet a a := by
  refine firstN_pos ha ?_
  unfold Cfg.isMeet Cfg.down
  rw [le_refl' hl a ha]
  simp only [Bool.and_self, Bool.true_and, List.all_eq_true]
  intro k _
  cases c.le k a <;> rfl
theorem lat_iff {c : Cfg} (hl : labelsB c = true) : latO c.n (tT c) ↔ ¬ c.noLat := by
  constructor
  · rintro ⟨h1, h2⟩ ⟨a, b, ha, hb, h⟩
    have hj : 0 ≤ c.join a b := by
      rcases Nat.lt_trichotomy b a with h' | rfl | h'
      · rw [← leastO_join hl _ _ ha hb]; exact h1 a b ha h'
      · exact join_self hl _ ha
      · rw [join_comm, ← leastO_join hl _ _ hb ha]; exact h1 b a hb h'
    have hm : 0 ≤ c.meet a b := by
      rcases Nat.lt_trichotomy b a with h' | rfl | h'
      · rw [← leastO_meet hl _ _ ha hb]; exact h2 a b ha h'
      · exact meet_self hl _ ha
      · rw [meet_comm, ← leastO_meet hl _ _ hb ha]; exact h2 b a hb h'
    omega
  · intro h
    refine ⟨fun a b ha hb => ?_, fun a b ha hb => ?_⟩
    · rw [leastO_join hl _ _ ha (by omega)]
      exact Int.not_lt.1 fun h' => h ⟨a, b, ha, by omega, Or.inl h'⟩
    · have := leastO_meet hl a b ha (by omega)
      unfold tT' at this
      rw [this]
      exact Int.not_lt.1 fun h' => h ⟨a, b, ha, by omega, Or.inr h'⟩
theorem grants_iff {c : Cfg} (hl : labelsB c = true) : grantsO c.n (tT c) c.grants = grantsB c := by
  unfold grantsO grantsB
  congr 2
  obtain ⟨_, _, _, _, hn, _, _⟩ := labels_of hl
  funext g
  unfold grantO grantOk
  by_cases h1 : okL c.labels g.1 = true
  · by_cases h2 : okL c.labels g.2 = true
    · rw [← hn] at h1 h2
      obtain ⟨x, hx, hx'⟩ := okL_cast h1
      obtain ⟨y, hy, hy'⟩ := okL_cast h2
      rw [hx, hy, leO_le hl _ _ hy' hx', ← hn, okL_lt hx', okL_lt hy']
      rw [show ((y : Int) == (x : Int)) = ((x : Int) == (y : Int)) from BEq.comm]
      simp
    · have h2' : okL c.labels g.2 = false := by simpa using h2
      simp [leO, hn, h2']
  · have h1' : okL c.labels g.1 = false := by simpa using h1
    simp [leO, hn, h1']
end Go.Proofs.YtgigkiocdiffjaaGreat
