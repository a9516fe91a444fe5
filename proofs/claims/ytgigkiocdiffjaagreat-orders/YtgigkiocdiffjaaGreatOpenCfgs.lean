/- What is read of a list of configurations. -/
import Derived.Test.YtgigkiocdiffjaaGreatOpenCfg
import Derived.Test.YtgigkiocdiffjaaGreatOpenOps
import Derived.Test.YtgigkiocdiffjaaGreatStepAsked
namespace Go.Proofs.YtgigkiocdiffjaaGreat
open Go.RowKit Go.Deep Veil
section
variable {H : Type} {enc : TypeId × Value → H} {w : World} {spare : Nat → Bool} {held : Bool}
set_option maxRecDepth 100000 in
theorem open_cfgs {fuel : Nat} {ao : Option Addr} {n cap : Nat} {x : DataW H × List MemPlace} (h : DataW.trod enc Tryz.prog w 0 spare held fuel 22 [.slice ao n cap] = some x) (hz : (x.1.weights Tryz.prog 22).all (· ≤ reachBytes) = true) :
    ∃ (cs : Nat → Cfg) (vs : Nat → CfgV), CfgsAt w ao n cs vs ∧ n < 2 ^ 57 := by
  rcases open_slice Tryz.underlying22 h with ⟨h0, _⟩ | ⟨a, len, cp, m, k, D, Pl, hv, _, hl, hm, hmm, rfl, hx⟩
  · simp only [List.cons.injEq, Value.slice.injEq, and_true] at h0
    obtain ⟨rfl, rfl, rfl⟩ := h0
    exact ⟨fun _ => ⟨0, [], [], []⟩, fun _ => ⟨none, 0, none, 0, none, 0⟩, Or.inl rfl, by decide⟩
  · simp only [List.cons.injEq, Value.slice.injEq, and_true] at hv
    obtain ⟨rfl, rfl, rfl⟩ := hv
    rw [Tryz.cellsConfig] at hx
    have hlm : n ≤ m := by rw [hmm]; split <;> omega
    have hw : ((DataW.slice ((List.range n).map D) ((List.range (m - n)).map fun j => D (n + j)) : DataW H).weights Tryz.prog 22) = (n + (m - n)) * 80 :: (DataW.weightsAll Tryz.prog 31 ((List.range n).map D) ++ DataW.weightsAll Tryz.prog 31 ((List.range (m - n)).map fun j => D (n + j))) := by
      simp [DataW.weights, Tryz.underlying22, Tryz.bytesConfig]
    rw [hw] at hz
    have hn : n < 2 ^ 57 := by
      have := all_le_mem hz (List.mem_cons_self ..)
      simp only [reachBytes] at this; omega
    have hel : ∀ i, i < n → ∃ p : Cfg × CfgV, (∀ j, j < 4 → w.cell? ((a.add (i * 4)).add j) = (cfgCells p.1 p.2)[j]?) ∧ CfgOk p.1 ∧ CfgAt w p.1 p.2 ∧ CfgNil p.1 p.2 := by
      intro i hi
      obtain ⟨cs', h1, h2⟩ := hx i (by omega)
      obtain ⟨_, hlen, hc⟩ := World.cells?_some h1
      obtain ⟨p, rfl, q1, q2, q3, _⟩ := open_config h2 (by
        rw [List.all_eq_true]
        intro y hy
        have : y ∈ DataW.weightsAll Tryz.prog 31 ((List.range n).map D) := weights_mem_all (d := D i) (List.mem_map.2 ⟨i, by simpa using hi, rfl⟩) y hy
        have := all_le_mem hz (List.mem_cons_of_mem _ (List.mem_append_left _ this))
        simpa using this)
      exact ⟨p, fun j hj => by rw [hc j hj]; simp, q1, q2, q3⟩
    haveI : Inhabited (Cfg × CfgV) := ⟨(⟨0, [], [], []⟩, ⟨none, 0, none, 0, none, 0⟩)⟩
    obtain ⟨f, hf⟩ := choose_lt hel
    refine ⟨fun i => (f i).1, fun i => (f i).2, ?_, hn⟩
    by_cases h0 : n = 0
    · exact Or.inl h0
    · right
      have hc := (hf 0 (by omega)).1 0 (by omega)
      rw [Nat.zero_mul, add_add] at hc
      have hc' : w.cell? (a.add 0) = some (.int .i64 (f 0).1.labels) := hc
      have ha := spot_none hc'
      refine ⟨a.block, a.off, congrArg some ha, ?_, fun i hi => ⟨fun j hj => ?_, (hf i hi).2⟩⟩
      · have hb := Go.block_lt_of_cell hc'
        rw [ha] at hb
        simpa [add_plain] using hb
      · have := (hf i hi).1 j hj
        rw [add_add, ha, add_plain] at this
        rw [← this]; congr 2; omega
end
end Go.Proofs.YtgigkiocdiffjaaGreat
