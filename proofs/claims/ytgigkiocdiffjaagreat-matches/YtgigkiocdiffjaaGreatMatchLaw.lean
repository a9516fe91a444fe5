/- veillaw.Matches: the step, the law's walk. -/
import Derived.Test.YtgigkiocdiffjaaGreatStepMatch
namespace Go.Proofs.YtgigkiocdiffjaaGreat
open Go.RowKit Veil
theorem heap_ints (w : World) (l : List Int) : IntsAt (w.alloc (.cells (l.map (Value.int .i64)).toArray 3)) w.heap.size l := Go.heap_alloc_new _ _
set_option maxHeartbeats 1000000 in
theorem law_matches (co : Option Addr) (cn cc : Nat) (ao : Option Addr) (n cap : Nat) (ops : Nat → OpR) (w : World) (hops : OpsAt w ao n ops) (hn : n ≤ 140737488355328)
    (hstr : ∀ i, i < n → (ops i).s.size ≤ maxLen ∧ (ops i).t.size ≤ 140737488355328) :
    Calls Tryz.prog 5 #[.slice co cn cc, .slice ao n cap] w fun e w' => e = .returned (.bool true) ∧ Below w.heap.size w w' := by
  have HO := hide hops
  have HS := hide hstr
  clear hops hstr
  go_enter Tryz.func5, Tryz.ntmps5
  go_wp2_with fail
  have hbel : ∀ o o' : Obj, Below w.heap.size w ((w.alloc o).alloc o') := fun o o' => ((Below.refl _ _).alloc (Nat.le_refl _) _).alloc (by simp) _
  refine (plays_plain co cn cc ao n cap ops w.heap.size (w.heap.size + 1) [5] _ (OpsAt.below HO.out (hbel _ _)) hn (heap_alloc2_old _ _ _) (heap_alloc2_new _ _ _) (by decide) ?_).mono ?_
  · intro i hi hk w' g hb hg hp
    exact step_match (ops i) g w' (by simpa using hk) (HS.out i hi).1 (HS.out i hi).2
  · rintro e w1 ⟨rfl, hb1⟩
    have HB := hide ((hbel (.cells #[.int .i64 5] 3) (.cells #[.int .i64 5] 3)).trans (hb1.mono (by simp; omega)))
    clear hb1 hbel
    go_wp2
    go_ret
    exact ⟨rfl, HB.out⟩
end Go.Proofs.YtgigkiocdiffjaaGreat
