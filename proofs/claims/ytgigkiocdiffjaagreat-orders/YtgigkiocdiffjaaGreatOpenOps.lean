/- What is read of a script. -/
import Derived.Test.YtgigkiocdiffjaaGreatPlays2
import Derived.Test.YtgigkiocdiffjaaGreatOpenKit
namespace Go.Proofs.YtgigkiocdiffjaaGreat
open Go.RowKit Go.Deep Veil
theorem Tryz.cellsOp : Tryz.prog.cellsOf 57 = 8 := by kernel_rfl
theorem Tryz.bytesOp : Tryz.prog.bytesOf 57 = 80 := by kernel_rfl

section
variable {H : Type} {enc : TypeId × Value → H} {w : World} {spare : Nat → Bool} {held : Bool}
set_option maxRecDepth 100000 in
/-- One step's cells. -/
theorem open_op {n : Nat} {cs : List Value} {x : DataW H × List MemPlace} (h : DataW.trod enc Tryz.prog w 0 spare held n 57 cs = some x) (hz : (x.1.weights Tryz.prog 57).all (· ≤ reachBytes) = true) :
    ∃ o : OpR, cs = o.cells.toList ∧ o.s.size ≤ maxLen ∧ o.s.size ≤ reachBytes ∧ o.t.size ≤ maxLen ∧ o.t.size ≤ reachBytes ∧ -9223372036854775808 ≤ o.a ∧ o.a ≤ 9223372036854775807 := by
  obtain ⟨xs, m, _, rfl, hl, hlen, hf⟩ := DataW.trod_struct Tryz.underlying57 h
  rw [Tryz.cellsOp] at hl
  match cs, hl, xs, hlen with
  | [c0, c1, c2, c3, c4, c5, c6, c7], _, [x0, x1, x2, x3, x4, x5, x6, x7], _ =>
    have f0 := hf 0 _ rfl
    have f1 := hf 1 _ rfl
    have f2 := hf 2 _ rfl
    have f3 := hf 3 _ rfl
    have f4 := hf 4 _ rfl
    have f5 := hf 5 _ rfl
    have f6 := hf 6 _ rfl
    have f7 := hf 7 _ rfl
    simp [Tryz.cellsInt, Tryz.cellsStr] at f0 f1 f2 f3 f4 f5 f6 f7
    obtain ⟨n0, e0, rfl, _⟩ := DataW.trod_int Tryz.underlying3 f0
    obtain ⟨n1, e1, rfl, w1⟩ := DataW.trod_int Tryz.underlying3 f1
    obtain ⟨n2, e2, rfl, _⟩ := DataW.trod_int Tryz.underlying3 f2
    obtain ⟨n3, e3, rfl, _⟩ := DataW.trod_int Tryz.underlying3 f3
    obtain ⟨n4, e4, rfl, _⟩ := DataW.trod_int Tryz.underlying3 f4
    obtain ⟨n5, e5, rfl, _⟩ := DataW.trod_int Tryz.underlying3 f5
    obtain ⟨s6, e6, rfl, h6⟩ := DataW.trod_string Tryz.underlying9 f6
    obtain ⟨s7, e7, rfl, h7⟩ := DataW.trod_string Tryz.underlying9 f7
    simp only [List.cons.injEq, and_true] at e0 e1 e2 e3 e4 e5 e6 e7
    subst e0 e1 e2 e3 e4 e5 e6 e7
    simp only [Lit.wf, Bool.and_eq_true, decide_eq_true_eq, show IntKind.min .i64 = -9223372036854775808 from rfl, show IntKind.max .i64 = 9223372036854775807 from rfl] at w1
    refine ⟨⟨n0, n1, n2, n3, n4, n5, s6, s7⟩, rfl, h6, ?_, h7, ?_, w1⟩
    all_goals
      simp [DataW.weights, DataW.weightsEach, Tryz.underlying57] at hz
      first | exact hz.1 | exact hz.2

set_option maxRecDepth 100000 in
theorem open_ops {fuel : Nat} {ao : Option Addr} {n cap : Nat} {x : DataW H × List MemPlace} (h : DataW.trod enc Tryz.prog w 0 spare held fuel 23 [.slice ao n cap] = some x) (hz : (x.1.weights Tryz.prog 23).all (· ≤ reachBytes) = true) :
    ∃ ops : Nat → OpR, OpsAt w ao n ops ∧ n ≤ 140737488355328 ∧ ∀ i, i < n → (ops i).s.size ≤ maxLen ∧ (ops i).s.size ≤ 140737488355328 ∧ (ops i).t.size ≤ maxLen ∧ (ops i).t.size ≤ 140737488355328 ∧ -9223372036854775808 ≤ (ops i).a ∧ (ops i).a ≤ 9223372036854775807 := by
  rcases open_slice Tryz.underlying23 h with ⟨h0, _⟩ | ⟨a, len, cp, m, k, D, Pl, hv, _, hl, hm, hmm, rfl, hx⟩
  · simp only [List.cons.injEq, Value.slice.injEq, and_true] at h0
    obtain ⟨rfl, rfl, rfl⟩ := h0
    exact ⟨fun _ => ⟨0, 0, 0, 0, 0, 0, ByteArray.empty, ByteArray.empty⟩, Or.inl rfl, by omega, fun i hi => absurd hi (by omega)⟩
  · simp only [List.cons.injEq, Value.slice.injEq, and_true] at hv
    obtain ⟨rfl, rfl, rfl⟩ := hv
    rw [Tryz.cellsOp] at hx
    have hlm : n ≤ m := by rw [hmm]; split <;> omega
    have hw : ((DataW.slice ((List.range n).map D) ((List.range (m - n)).map fun j => D (n + j)) : DataW H).weights Tryz.prog 23) = (n + (m - n)) * 80 :: (DataW.weightsAll Tryz.prog 57 ((List.range n).map D) ++ DataW.weightsAll Tryz.prog 57 ((List.range (m - n)).map fun j => D (n + j))) := by
      simp [DataW.weights, Tryz.underlying23, Tryz.bytesOp]
    rw [hw] at hz
    have hn : n ≤ 140737488355328 := by
      have := all_le_mem hz (List.mem_cons_self ..)
      simp only [reachBytes] at this; omega
    have hel : ∀ i, i < n → ∃ o : OpR, (∀ j, j < 8 → w.cell? ((a.add (i * 8)).add j) = o.cells[j]?) ∧ o.s.size ≤ maxLen ∧ o.s.size ≤ 140737488355328 ∧ o.t.size ≤ maxLen ∧ o.t.size ≤ 140737488355328 ∧ -9223372036854775808 ≤ o.a ∧ o.a ≤ 9223372036854775807 := by
      intro i hi
      obtain ⟨cs', h1, h2⟩ := hx i (by omega)
      obtain ⟨_, hlen, hc⟩ := World.cells?_some h1
      obtain ⟨o, rfl, q1, q2, q3, q4, q5⟩ := open_op h2 (by
        rw [List.all_eq_true]
        intro y hy
        have : y ∈ DataW.weightsAll Tryz.prog 57 ((List.range n).map D) := weights_mem_all (d := D i) (List.mem_map.2 ⟨i, by simpa using hi, rfl⟩) y hy
        have := all_le_mem hz (List.mem_cons_of_mem _ (List.mem_append_left _ this))
        simpa using this)
      refine ⟨o, fun j hj => by rw [hc j hj]; simp, q1, ?_, q3, ?_, q5⟩
      · simp only [reachBytes] at q2; omega
      · simp only [reachBytes] at q4; omega
    haveI : Inhabited OpR := ⟨⟨0, 0, 0, 0, 0, 0, ByteArray.empty, ByteArray.empty⟩⟩
    obtain ⟨ops, hops⟩ := choose_lt hel
    refine ⟨ops, ?_, hn, fun i hi => (hops i hi).2⟩
    by_cases h0 : n = 0
    · exact Or.inl h0
    · right
      have hc := (hops 0 (by omega)).1 0 (by omega)
      rw [Nat.zero_mul, add_add] at hc
      have hc' : w.cell? (a.add 0) = some (.int .i64 (ops 0).kind) := hc
      have ha := spot_none hc'
      refine ⟨a.block, a.off, congrArg some ha, ?_, fun i hi j hj => ?_⟩
      · have hb := Go.block_lt_of_cell hc'
        rw [ha] at hb
        simpa [add_plain] using hb
      · have := (hops i hi).1 j hj
        rw [add_add, ha, add_plain] at this
        rw [← this]; congr 2; omega
end
end Go.Proofs.YtgigkiocdiffjaaGreat
