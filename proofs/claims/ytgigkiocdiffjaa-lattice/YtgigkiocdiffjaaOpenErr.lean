/- veil.Open where the configuration is not right. -/
import Derived.Test.YtgigkiocdiffjaaVeil2
namespace Go.Proofs.Ytgigkiocdiffjaa
open Go.RowKit Veil
set_option maxRecDepth 100000 in
set_option maxHeartbeats 4000000 in
theorem vOpen_bad (c : Cfg) (v : CfgV) (k : Int) (w : World) (hok : CfgOk c) (hat : CfgAt w c v) (hcap : c.rules.length ≤ v.rc) (hk : CheckIs c k) (hne : k ≠ 0) :
    Calls Try.prog 28 #[.agg (cfgCells c v)] w fun e w' => e = .returned (.tuple #[.pointer none, .int .i64 k]) ∧ Below w.heap.size w w' := by
  have HQ := hide (fun w' (hb : Below w.heap.size w w') => cCheck_any c v w' hok (hat.below hb) hcap)
  have HB0 := hide (below_box w (.cells (cfgCells c v) 31))
  have HK := hide hk
  have hcode : (k == 0) = false := by simpa using hne
  clear hok hat hcap hk
  unfold cfgCells at *
  go_enter Try.func28, Try.ntmps28
  go_wp2_with fail
  refine (HQ.out _ HB0.out).mono ?_
  rintro e w1 ⟨code, L, f, rfl, ⟨hc, _⟩, hb1⟩
  obtain rfl := hc.same HK.out
  have hbel1 := HB0.out.trans (hb1.mono (by simp))
  have HN := hide (Go.heap_alloc_new w1 (.cells (ordC 0 noF) 73))
  have i2 : rowIs (w1.alloc (.cells (ordC 0 noF) 73)) w1.heap.size 37 := ⟨_, _, HN.out, ordC_size _ _⟩
  have hbel3 : Below w.heap.size w ((w1.alloc (.cells (ordC 0 noF) 73)).setRow w1.heap.size (ordC L f)) := below_setRow (hbel1.alloc hbel1.size _) hbel1.size _
  clear hb1 HB0 hc HK HQ
  go_wp2_with (refine wpList_alloc_ord rfl rfl ?_)
  go_ret2
  exact ⟨rfl, hbel3⟩
end Go.Proofs.Ytgigkiocdiffjaa
