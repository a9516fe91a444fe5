/- veillaw's step of kind Match. -/
import Derived.Test.YtgigkiocdiffjaaGreatPlays2
namespace Go.Proofs.YtgigkiocdiffjaaGreat
open Go.RowKit Veil
set_option maxHeartbeats 1000000 in
theorem step_match (o : OpR) (g : Nat) (w : World) (hk : o.kind = 5) (hs : o.s.size ≤ maxLen) (ht : o.t.size ≤ 140737488355328) :
    Calls Tryz.prog 18 #[.pointer (some ⟨g, 0, none⟩), .agg o.cells] w fun e w'' => e = .returned (.bool true) ∧ Below w.heap.size w w'' := by
  obtain ⟨kind, a, b, c, d, e0, s, t⟩ := o
  simp only at hk hs ht
  subst hk
  have htm : t.size ≤ maxLen := by unfold maxLen; omega
  unfold OpR.cells
  cases hv : validB s
  · go_enter Tryz.func18, Tryz.ntmps18
    go_wp2_with fail
    refine (match_no s t _ hv hs).mono ?_
    rintro e w1 ⟨rfl, rfl⟩
    go_wp2_with fail
    refine (rMatch_no s t _ hv hs).mono ?_
    rintro e w1 ⟨rfl, rfl⟩
    go_wp2
    go_ret
    exact ⟨rfl, (Below.refl _ _).alloc (Nat.le_refl _) _⟩
  · go_enter Tryz.func18, Tryz.ntmps18
    go_wp2_with fail
    refine (match_yes s t _ hv htm).mono ?_
    rintro e w1 ⟨rfl, hb1⟩
    have hsz : w.heap.size < w1.heap.size := by have := hb1.size; simp at this; omega
    have h6 : w1.cell? ⟨w.heap.size, 6, none⟩ = some (.string s) := by rw [hb1.cell (p := ⟨w.heap.size, 6, none⟩) (by simp)]; simp
    have h7 : w1.cell? ⟨w.heap.size, 7, none⟩ = some (.string t) := by rw [hb1.cell (p := ⟨w.heap.size, 7, none⟩) (by simp)]; simp
    go_wp2_with fail
    refine (rMatch_yes s t _ hv ht).mono ?_
    rintro e w2 ⟨rfl, hb2⟩
    have HB := hide (((Below.refl w.heap.size w).alloc (Nat.le_refl _) _).trans ((hb1.mono (by simp)).trans (hb2.mono (by omega))))
    clear hb1 hb2 h6 h7
    go_wp2
    go_ret
    exact ⟨rfl, HB.out⟩
end Go.Proofs.YtgigkiocdiffjaaGreat
