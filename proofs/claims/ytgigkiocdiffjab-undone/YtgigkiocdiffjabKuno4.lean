/- veilkeep: one document: Insert and Delete. No walk here. -/
import Derived.Test.YtgigkiocdiffjabUKuno
namespace Go.Proofs.Ytgigkiocdiffjab
open Go.RowKit Veil
section
variable {F : Nat → Prop} {B g k : Nat} {w w' : World} {c : Cfg} {s : PSt}
theorem one_insert (h : One F B w g c s k) (hk : k ≤ 4000000000000) (level a : Int) (t : ByteArray) (hos : t.size ≤ 140737488355328) :
    Calls Try.prog 12 #[.pointer (some ⟨g, 0, none⟩), .int .i64 level, .int .i64 a, .string t] w fun e w' => e = .returned (.int .i64 (insCode c s.row level a t)) ∧ One F B w' g c (insRes c s level a t) (k + 1) ∧ LeftF F B w w' := by
  obtain ⟨p, h1, h2⟩ := h
  refine Calls.mono (pInsert h1 hk level a t hos) ?_
  rintro e w' ⟨rfl, hr⟩
  exact ⟨rfl, one_res h1 h2 hr⟩
theorem one_delete (h : One F B w g c s k) (hk : k ≤ 4000000000000) (level a b : Int) :
    Calls Try.prog 14 #[.pointer (some ⟨g, 0, none⟩), .int .i64 level, .int .i64 a, .int .i64 b] w fun e w' => e = .returned (.int .i64 (delCode c s.row level a b)) ∧ One F B w' g c (delRes c s level a b) (k + 1) ∧ LeftF F B w w' := by
  obtain ⟨p, h1, h2⟩ := h
  refine Calls.mono (pDelete h1 hk level a b) ?_
  rintro e w' ⟨rfl, hr⟩
  exact ⟨rfl, one_res h1 h2 hr⟩
theorem One.quota (h : One F B w g c s k) (lv : Nat) : ownC s.row lv ≤ 200 := by
  obtain ⟨p, h1, h2⟩ := h
  exact h1.good.quota lv
end
end Go.Proofs.Ytgigkiocdiffjab
