/- Every configuration is right or not. No Go here. -/
import Derived.Test.YtgigkiocdiffjaaGreatS02
namespace Go.Proofs.YtgigkiocdiffjaaGreat
open Go.RowKit Veil
theorem kcheck_ex (c : Cfg) : ∃ e, CheckIs c e := by
  cases hl : labelsB c with
  | false => exact ⟨1, fun _ => rfl, fun h => (by rw [hl] at h; cases h), fun h => (by rw [hl] at h; cases h), fun h => (by rw [hl] at h; cases h), fun h => (by rw [hl] at h; cases h), fun h => (by rw [hl] at h; cases h)⟩
  | true =>
    by_cases h1 : c.circle
    · exact ⟨2, fun h => by simp [hl] at h, fun _ _ => rfl, fun _ h => absurd h1 h, fun _ h => absurd h1 h, fun _ h => absurd h1 h, fun _ h => absurd h1 h⟩
    by_cases h2 : c.noLat
    · exact ⟨3, fun h => by simp [hl] at h, fun _ h => absurd h h1, fun _ _ _ => rfl, fun _ _ h => absurd h2 h, fun _ _ h => absurd h2 h, fun _ _ h => absurd h2 h⟩
    cases h3 : rulesB c with
    | false => exact ⟨4, fun h => by simp [hl] at h, fun _ h => absurd h h1, fun _ _ h => absurd h h2, fun _ _ _ _ => rfl, fun _ _ _ h => by simp [h3] at h, fun _ _ _ h => by simp [h3] at h⟩
    | true =>
      cases h4 : grantsB c with
      | false => exact ⟨5, fun h => by simp [hl] at h, fun _ h => absurd h h1, fun _ _ h => absurd h h2, fun _ _ _ h => by simp [h3] at h, fun _ _ _ _ _ => rfl, fun _ _ _ _ h => by simp [h4] at h⟩
      | true => exact ⟨0, fun h => by simp [hl] at h, fun _ h => absurd h h1, fun _ _ h => absurd h h2, fun _ _ _ h => by simp [h3] at h, fun _ _ _ _ h => by simp [h4] at h, fun _ _ _ _ _ => rfl⟩
end Go.Proofs.YtgigkiocdiffjaaGreat
