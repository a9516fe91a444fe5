/- veillaw.Matches: the step, the law's walk. -/
import Derived.Test.YthgcpjdlcooncaaGreatPlays2
namespace Go.Proofs.YthgcpjdlcooncaaGreat
open Go.RowKit Veil
set_option maxHeartbeats 1000000 in
theorem step_match (o : OpR) (g : Nat) (w : World) (hk : o.kind = 5) (hs : o.s.size ≤ maxLen) (ht : o.t.size ≤ 140737488355328) :
    Calls Tryz.prog 13 #[.pointer (some ⟨g, 0, none⟩), .agg o.cells] w fun e w'' => e = .returned (.bool true) ∧ Below w.heap.size w w'' := by
  obtain ⟨kind, a, b, c, d, e0, s, t⟩ := o
  simp only at hk hs ht
  subst hk
  have htm : t.size ≤ maxLen := by unfold maxLen; omega
  unfold OpR.cells
  cases hv : validB s
  · go_enter Tryz.func13, Tryz.ntmps13
    go_wp2_with fail
    refine (match_no s t _ hv hs).mono ?_
    rintro e w1 ⟨rfl, rfl⟩
    go_wp2_with fail
    refine (rMatch_no s t _ hv hs).mono ?_
    rintro e w1 ⟨rfl, rfl⟩
    go_wp2
    go_ret
    exact ⟨rfl, (Below.refl _ _).alloc (Nat.le_refl _) _⟩
  · go_enter Tryz.func13, Tryz.ntmps13
    go_wp2_with fail
    refine (match_yes s t _ hv htm).mono ?_
    rintro e w1 ⟨rfl, hb1⟩
    have hsz : w.heap.size < w1.heap.size := by have := hb1.size; simp at this; omega
    have h6 : w1.cell? ⟨w.heap.size, 6, none⟩ = some (.string s) := by rw [hb1.cell (p := ⟨w.heap.size, 6, none⟩) (by simp)]; simp
    have h7 : w1.cell? ⟨w.heap.size, 7, none⟩ = some (.string t) := by rw [hb1.cell (p := ⟨w.heap.size, 7, none⟩) (by simp)]; simp
    go_wp2_with fail
    refine (rMatch_yes s t _ hv ht).mono ?_
    rintro e w2 ⟨rfl, hb2⟩
    have HB := hide (((Below.refl w.heap.size w).alloc (Nat.le_refl _) _).trans ((hb1.mono (by simp)).trans (hb2.mono (by omega))))
    clear hb1 hb2 h6 h7
    go_wp2
    go_ret
    exact ⟨rfl, HB.out⟩

theorem heap_ints (w : World) (l : List Int) : IntsAt (w.alloc (.cells (l.map (Value.int .i64)).toArray 3)) w.heap.size l := Go.heap_alloc_new _ _
set_option maxHeartbeats 1000000 in
theorem law_matches (co : Option Addr) (cn cc : Nat) (ao : Option Addr) (n cap : Nat) (ops : Nat → OpR) (w : World) (hops : OpsAt w ao n ops) (hn : n ≤ 140737488355328)
    (hstr : ∀ i, i < n → (ops i).s.size ≤ maxLen ∧ (ops i).t.size ≤ 140737488355328) :
    Calls Tryz.prog 5 #[.slice co cn cc, .slice ao n cap] w fun e w' => e = .returned (.bool true) ∧ Below w.heap.size w w' := by
  have HO := hide hops
  have HS := hide hstr
  clear hops hstr
  go_enter Tryz.func5, Tryz.ntmps5
  go_wp2_with fail
  have hbel : ∀ o o' : Obj, Below w.heap.size w ((w.alloc o).alloc o') := fun o o' => ((Below.refl _ _).alloc (Nat.le_refl _) _).alloc (by simp) _
  refine (plays_plain co cn cc ao n cap ops w.heap.size (w.heap.size + 1) [5] _ (OpsAt.below HO.out (hbel _ _)) hn (heap_alloc2_old _ _ _) (heap_alloc2_new _ _ _) (by decide) ?_).mono ?_
  · intro i hi hk w' g hb hg hp
    exact step_match (ops i) g w' (by simpa using hk) (HS.out i hi).1 (HS.out i hi).2
  · rintro e w1 ⟨rfl, hb1⟩
    have HB := hide ((hbel (.cells #[.int .i64 5] 3) (.cells #[.int .i64 5] 3)).trans (hb1.mono (by simp; omega)))
    clear hb1 hbel
    go_wp2
    go_ret
    exact ⟨rfl, HB.out⟩
end Go.Proofs.YthgcpjdlcooncaaGreat
