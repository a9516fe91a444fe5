/- veillaw.Checks, Orders: the laws' walks. -/
import Derived.Test.YtgigkiocdiffjaaGreatStepAsked
namespace Go.Proofs.YtgigkiocdiffjaaGreat
open Go.RowKit Veil
theorem steps_asked {co : Option Addr} {cn cap : Nat} {cs : Nat → Cfg} {vs : Nat → CfgV} {n : Nat} {ops : Nat → OpR} {w : World} {L : List Int} (hcs : CfgsAt w co cn cs vs) (hcn : cn < 2 ^ 57) (hL : ∀ k, L.contains k = true → 1 ≤ k ∧ k ≤ 4)
    (ha : ∀ i, i < n → -9223372036854775808 ≤ (ops i).a ∧ (ops i).a ≤ 9223372036854775807) : StepsTrue w (.slice co cn cap) L n ops :=
  fun i hi hk w' g hb _ hp => step_asked co cn cap cs vs (ops i) g w w' (hL _ hk).1 (hL _ hk).2 (ha i hi) hcn hb hp.cells.1 hp.lt hcs
set_option maxHeartbeats 1000000 in
theorem law_checks (co : Option Addr) (cn cc : Nat) (ao : Option Addr) (n cap : Nat) (ops : Nat → OpR) (cs : Nat → Cfg) (vs : Nat → CfgV) (w : World) (hops : OpsAt w ao n ops) (hn : n ≤ 140737488355328)
    (hcs : CfgsAt w co cn cs vs) (hcn : cn < 2 ^ 57) (ha : ∀ i, i < n → -9223372036854775808 ≤ (ops i).a ∧ (ops i).a ≤ 9223372036854775807) :
    Calls Tryz.prog 3 #[.slice co cn cc, .slice ao n cap] w fun e w' => e = .returned (.bool true) ∧ Below w.heap.size w w' := by
  have HO := hide hops
  have HC := hide hcs
  have HA := hide ha
  have HN := hide hcn
  clear hops hcs ha hcn
  go_enter Tryz.func3, Tryz.ntmps3
  go_wp2_with fail
  have hbel : ∀ o o' : Obj, Below w.heap.size w ((w.alloc o).alloc o') := fun o o' => ((Below.refl _ _).alloc (Nat.le_refl _) _).alloc (by simp) _
  refine (plays_plain co cn cc ao n cap ops w.heap.size (w.heap.size + 1) [1] _ (OpsAt.below HO.out (hbel _ _)) hn (heap_alloc2_old _ _ _) (heap_alloc2_new _ _ _) (by decide) ?_).mono ?_
  · exact steps_asked (HC.out.below (hbel _ _)) HN.out (fun k hk => by simp at hk; omega) HA.out
  · rintro e w1 ⟨rfl, hb1⟩
    have HB := hide ((hbel (.cells #[.int .i64 1] 3) (.cells #[.int .i64 1] 3)).trans (hb1.mono (by simp; omega)))
    clear hb1 hbel
    go_wp2
    go_ret
    exact ⟨rfl, HB.out⟩
set_option maxHeartbeats 1000000 in
theorem law_orders (co : Option Addr) (cn cc : Nat) (ao : Option Addr) (n cap : Nat) (ops : Nat → OpR) (cs : Nat → Cfg) (vs : Nat → CfgV) (w : World) (hops : OpsAt w ao n ops) (hn : n ≤ 140737488355328)
    (hcs : CfgsAt w co cn cs vs) (hcn : cn < 2 ^ 57) (ha : ∀ i, i < n → -9223372036854775808 ≤ (ops i).a ∧ (ops i).a ≤ 9223372036854775807) :
    Calls Tryz.prog 4 #[.slice co cn cc, .slice ao n cap] w fun e w' => e = .returned (.bool true) ∧ Below w.heap.size w w' := by
  have HO := hide hops
  have HC := hide hcs
  have HA := hide ha
  have HN := hide hcn
  clear hops hcs ha hcn
  go_enter Tryz.func4, Tryz.ntmps4
  go_wp2_with fail
  have hbel : ∀ o : Obj, Below w.heap.size w (w.alloc o) := fun o => (Below.refl _ _).alloc (Nat.le_refl _) _
  refine (plays_plain co cn cc ao n cap ops w.heap.size w.heap.size [2, 3, 4] _ (OpsAt.below HO.out (hbel _)) hn (Go.heap_alloc_new _ _) (Go.heap_alloc_new _ _) (by decide) ?_).mono ?_
  · exact steps_asked (HC.out.below (hbel _)) HN.out (fun k hk => by simp at hk; omega) HA.out
  · rintro e w1 ⟨rfl, hb1⟩
    have HB := hide ((hbel (.cells #[.int .i64 2, .int .i64 3, .int .i64 4] 3)).trans (hb1.mono (by simp)))
    clear hb1 hbel
    go_wp2
    go_ret
    exact ⟨rfl, HB.out⟩
end Go.Proofs.YtgigkiocdiffjaaGreat
