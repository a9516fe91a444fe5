/- veilkeep.views. -/
import Derived.Test.YtgigkiocdiffjaaGreatSKuno
import Derived.Test.YtgigkiocdiffjaaGreatSKopen
namespace Go.Proofs.YtgigkiocdiffjaaGreat
open Go.RowKit Veil
/-- The views of all levels. -/
def viewsTo (c : Cfg) (s : PSt) (k : Nat) : List ByteArray := (List.range k).map fun d => viewT (placesR c s.row d)
theorem viewsTo_snoc (c : Cfg) (s : PSt) (k : Nat) : viewsTo c s (k + 1) = viewsTo c s k ++ [viewT (placesR c s.row k)] := by
  unfold viewsTo
  rw [List.range_succ, List.map_append]
  rfl
theorem viewsTo_length (c : Cfg) (s : PSt) (k : Nat) : (viewsTo c s k).length = k := by simp [viewsTo]
theorem viewsTo_at (c : Cfg) (s : PSt) {k d : Nat} (h : d < k) : (viewsTo c s k)[d]? = some (viewT (placesR c s.row d)) := by
  unfold viewsTo
  rw [List.getElem?_map, List.getElem?_range h]
  rfl
set_option maxRecDepth 100000 in
set_option maxHeartbeats 4000000 in
theorem kviews_ok {F : Nat → Prop} {B g k : Nat} {w : World} {c : Cfg} {s : PSt} (h : One F B w g c s k) (v : CfgV) (sv : Value) :
    Calls Tryz.prog 14 #[.agg (caseC c v sv), .pointer (some ⟨g, 0, none⟩)] w fun e w' => ∃ vl, e = .returned (.tuple #[vl, .bool true]) ∧ OwnL 9 1 strV w' w.heap.size vl (viewsTo c s c.n) ∧ Below w.heap.size w w' := by
  obtain ⟨_, _, _, _, hc, hn6, hn1⟩ := labels_of h.right.labels
  have HB0 := hide (below_box w (.cells (caseC c v sv) 34))
  have HX0 := hide (Go.heap_alloc_new w (.cells (caseC c v sv) 34))
  have HV := hide (fun (w' : World) (hb : Below w.heap.size w w') (d : Nat) (hd : d < c.n) => one_view (h.below hb) d hd)
  have HSN := hide (viewsTo_snoc c s)
  have HLN := hide (viewsTo_length c s)
  have hcl : c.labels = (c.n : Int) := hc.symm
  unfold caseC at *
  rw [hcl] at HB0 HX0 ⊢
  clear h hc hcl
  generalize c.n = n at *
  go_enter Tryz.func14, Tryz.ntmps14
  go_wp2
  generalize hW0 : w.alloc (.cells #[.int .i64 (n : Int), .slice v.ea c.edges.length v.ec, .slice v.ra c.rules.length v.rc, .slice v.ga c.grants.length v.gc, sv] 34) = w0 at *
  have HW0 := hide hW0
  clear hW0
  go_loopw [6, 7] (fun vl i wr => ∃ d : Nat, d ≤ n ∧ i = .int .i64 d ∧ OwnL 9 1 strV wr w0.heap.size vl (viewsTo c s d) ∧ Below w0.heap.size w0 wr) (fun _ i _ => n - (intOf i).toNat)
  case atStart => exact ⟨0, Nat.zero_le _, rfl, OwnL.nil _ _ _ _ _, Below.refl _ _⟩
  case round =>
    obtain ⟨wo, rfl⟩ : ∃ x, x = wr := ⟨_, rfl⟩
    obtain ⟨d, hd, rfl, hvl, hbel⟩ := hrel
    have HVL := hide hvl
    have HXO := hide (Below.row hbel HX0.out (lt_of_row HX0.out))
    have q0 : wo.cell? ⟨w.heap.size, 0, none⟩ = some (.int .i64 (n : Int)) := (cell_of_row _ _ _ _ _ _ HXO.out).trans rfl
    have HBO := hide (HB0.out.trans (hbel.mono HB0.out.size))
    clear hvl
    by_cases hlt : d < n
    · have hki : (d : Int) < (n : Int) := by omega
      have HV1 := hide (HV.out wo HBO.out d hlt)
      have HS1 := hide (HSN.out d)
      have hln := HLN.out d
      generalize viewT (placesR c s.row d) = V at *
      go_wp2_with fail
      refine (HV1.out).mono ?_
      rintro e w1 ⟨rfl, hb1⟩
      have hbel1 := hbel.trans (hb1.mono hbel.size)
      have hbC := below_box w1 (.cells #[.string V] 9)
      have hbelC := hbel1.trans (hbC.mono hbel1.size)
      have HVC := hide ((HVL.out.below hb1).below hbC)
      have HNC := hide (Go.heap_alloc_new w1 (.cells #[.string V] 9))
      clear q0
      go_wp2_with (at_builtin; refine wpList_push rfl (.tmp 26) (.tmp 28) 38 rfl (.string ⟨#[]⟩) 16 Tryz.underlying38 Tryz.infoStr rfl (by decide) rfl HVC.out w1.heap.size 1 V rfl 9 (0, 0) HNC.out rfl (by intro u hu; simp [strV] at hu; rcases hu with rfl; rfl) (by omega) (by decide) hbelC.size (w1.heap.size + 1) (by simp) ?_; intro g6 cap6 w6 hown6 hgrow6 hat6 hlt6)
      have hb6 := hbelC.trans (below_of_grown hgrow6 (fun b hb => (HVC.out.lt hb).1) hbelC.size)
      go_roundw
      case rel => exact ⟨d + 1, by omega, by go_num, by rw [HS1.out]; simpa [hln] using hown6, hb6⟩
      case measure => simp [intOf]; omega
    · obtain rfl : d = n := by omega
      have hkc : decide ((d : Int) < (d : Int)) = false := by simp
      go_wp2
      go_ret2
      exact ⟨_, rfl, HVL.out.mono HB0.out.size, HBO.out⟩
end Go.Proofs.YtgigkiocdiffjaaGreat
