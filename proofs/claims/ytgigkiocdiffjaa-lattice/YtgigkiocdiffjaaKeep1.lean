/- veilkeep: right, label, pick, atMost, bound; veil.Open's error. -/
import Derived.Test.YtgigkiocdiffjaaVeil2
import Derived.Test.YtgigkiocdiffjaaLat0
namespace Go.Proofs.Ytgigkiocdiffjaa
open Go.RowKit Veil
theorem TwoIs.get {α : Type} {c : Cfg} {a b : Int} {z x r : α} {code : Int} (h : TwoIs c a b z x r code) (hr : CheckIs c 0) (ha : okL c.labels a = true) (hb : okL c.labels b = true) : r = x ∧ code = 0 := by
  obtain ⟨k, h1, _, _, h4⟩ := h
  exact h4 (h1.same hr) (by rw [ha, hb]; rfl)
theorem TwoIs.level {α : Type} {c : Cfg} {a b : Int} {z x r : α} {code : Int} (h : TwoIs c a b z x r code) (hr : CheckIs c 0) (hab : (okL c.labels a && okL c.labels b) = false) : r = z ∧ code = 6 := by
  obtain ⟨k, h1, _, h3, _⟩ := h
  exact h3 (h1.same hr) hab
theorem TwoIs.bad {α : Type} {c : Cfg} {a b k : Int} {z x r : α} {code : Int} (h : TwoIs c a b z x r code) (hr : CheckIs c k) (hk : k ≠ 0) : r = z ∧ code = k := by
  obtain ⟨k', h1, h2, _, _⟩ := h
  obtain rfl := h1.same hr
  exact h2 hk
theorem Right.okL {c : Cfg} (h : Right c) {a : Nat} (ha : a < c.n) : okL c.labels a = true := by
  obtain ⟨_, _, _, _, hn, _, _⟩ := labels_of h.labels
  rw [← hn]; exact okL_lt ha
set_option maxHeartbeats 400000 in
theorem klabel_any (c : Cfg) (v : CfgV) (a : Int) (w : World) :
    Calls Try.prog 11 #[.agg (cfgCells c v), .int .i64 a] w fun e w' => e = .returned (.bool (okL c.labels a)) ∧ Below w.heap.size w w' := by
  unfold cfgCells
  by_cases h : 0 ≤ a
  · go_enter Try.func11, Try.ntmps11
    go_wp2
    go_ret
    exact ⟨ret_bool (by simp [Veil.okL, h]), below_box _ _⟩
  · go_enter Try.func11, Try.ntmps11
    go_wp2
    go_ret
    exact ⟨ret_bool (by simp [Veil.okL]; omega), below_box _ _⟩
def pickK (c n : Int) : Int := (if c < 0 then -(c + 1) else c).tmod n
theorem pickK_lt {c : Int} {n : Nat} (hc : -9223372036854775808 ≤ c) (hn : 0 < n) : ∃ i : Nat, pickK c n = i ∧ i < n := by
  have h0 : 0 ≤ (if c < 0 then -(c + 1) else c) := by split <;> omega
  have h1 : 0 ≤ pickK c n := Int.tmod_nonneg _ h0
  have h2 : pickK c n < n := Int.tmod_lt_of_pos _ (by omega)
  obtain ⟨i, hi⟩ := Int.eq_ofNat_of_zero_le h1
  exact ⟨i, hi, by omega⟩
set_option maxHeartbeats 1000000 in
theorem kpick_any (c : Int) (n : Nat) (w : World) (hc : -9223372036854775808 ≤ c ∧ c ≤ 9223372036854775807) (hn : 0 < n) (hn2 : n < 2 ^ 57) :
    Calls Try.prog 16 #[.int .i64 c, .int .i64 n] w fun e w' => e = .returned (.int .i64 (pickK c n)) ∧ w = w' := by
  have hn3 : (0 : Int) < (n : Int) := by omega
  have hn4 : ((n : Int) == 0) = false := by simp; omega
  have hn5 : ((n : Int) == -1) = false := by simp
  by_cases h : c < 0
  · have HP := hide (show pickK c n = (-(c + 1)).tmod n by unfold pickK; rw [if_pos h])
    go_enter Try.func16, Try.ntmps16
    go_wp2
    go_ret
    exact ⟨by rw [HP.out, Int.neg_tmod]; rfl, rfl⟩
  · have HP := hide (show pickK c n = c.tmod n by unfold pickK; rw [if_neg h])
    go_enter Try.func16, Try.ntmps16
    go_wp2
    go_ret
    exact ⟨by rw [HP.out, Int.tmod_eq_emod_of_nonneg (by omega)]; rfl, rfl⟩
set_option maxRecDepth 100000 in
set_option maxHeartbeats 4000000 in
theorem kright_any (c : Cfg) (v : CfgV) (w : World) (hok : CfgOk c) (hat : CfgAt w c v) :
    Calls Try.prog 8 #[.agg (cfgCells c v)] w fun e w' => ∃ code, e = .returned (.bool (code == 0)) ∧ CheckIs c code ∧ Below w.heap.size w w' := by
  have HQ := hide (fun w' (hb : Below w.heap.size w w') => rCheck_any c v w' hok (hat.below hb))
  have HB0 := hide (below_box w (.cells (cfgCells c v) 31))
  clear hok hat
  unfold cfgCells at *
  go_enter Try.func8, Try.ntmps8
  go_wp2_with fail
  refine (HQ.out _ HB0.out).mono ?_
  rintro e w1 ⟨code, rfl, hc, hb1⟩
  have HC := hide hc
  have hbel1 := HB0.out.trans (hb1.mono (by simp))
  clear hb1 HB0 hc HQ
  go_wp2
  go_ret
  exact ⟨code, rfl, HC.out, hbel1⟩
set_option maxRecDepth 100000 in
set_option maxHeartbeats 4000000 in
theorem atMost_any (c : Cfg) (v : CfgV) (a b : Nat) (w : World) (hok : CfgOk c) (hat : CfgAt w c v) (hcap : c.rules.length ≤ v.rc) (hr : CheckIs c 0) (ha : a < c.n) (hb : b < c.n) :
    Calls Try.prog 10 #[.agg (cfgCells c v), .int .i64 a, .int .i64 b] w fun e w' => e = .returned (.tuple #[.bool (c.le a b), .bool true]) ∧ Below w.heap.size w w' := by
  have HQ := hide (fun w' (hb : Below w.heap.size w w') => vLeq_any c v a b w' hok (hat.below hb) hcap)
  have HB0 := hide (below_box w (.cells (cfgCells c v) 31))
  have HR := hide (And.intro hr (And.intro ((right_of hr).okL ha) ((right_of hr).okL hb)))
  clear hok hat hcap hr ha hb
  unfold cfgCells at *
  go_enter Try.func10, Try.ntmps10
  go_wp2_with fail
  refine (HQ.out _ HB0.out).mono ?_
  rintro e w1 ⟨r, code, rfl, hc, hb1⟩
  obtain ⟨hr2, rfl⟩ := hc.get HR.out.1 HR.out.2.1 HR.out.2.2
  have HR2 := hide hr2
  have hbel1 := HB0.out.trans (hb1.mono (by simp))
  clear hb1 HB0 hc HQ hr2 HR
  go_wp2
  go_ret2
  exact ⟨by rw [HR2.out]; rfl, hbel1⟩
end Go.Proofs.Ytgigkiocdiffjaa
