/- config.Check. -/
import Derived.Test.YtgigkiocdiffjaaGreatConfig2
import Derived.Test.YtgigkiocdiffjaaGreatBridge
namespace Go.Proofs.YtgigkiocdiffjaaGreat
open Go.RowKit Veil
theorem NewIs.right {c : Cfg} {L : Int} {f : Nat → Nat → Bool} (h : NewIs c 0 L f) : labelsB c = true ∧ ¬ c.circle ∧ ¬ c.noLat ∧ L = c.n ∧ f = tT c := by
  cases hl : labelsB c with
  | false => have := h.one hl; omega
  | true =>
    by_cases h1 : c.circle
    · have := h.two hl ((circle_iff hl).2 h1); omega
    · have h1' : ¬ circleO c.n (tT c) := fun h' => h1 ((circle_iff hl).1 h')
      by_cases h2 : c.noLat
      · have := h.three hl h1' (fun h' => (lat_iff hl).1 h' h2); omega
      · obtain ⟨_, h3, h4⟩ := h.ok hl h1' ((lat_iff hl).2 h2)
        exact ⟨rfl, h1, h2, h3, h4⟩
theorem NewIs.wrong {c : Cfg} {code L : Int} {f : Nat → Nat → Bool} (h : NewIs c code L f) (hne : code ≠ 0) : CheckIs c code := by
  cases hl : labelsB c with
  | false => exact ⟨fun _ => h.one hl, fun h' => by simp [hl] at h', fun h' => by simp [hl] at h', fun h' => by simp [hl] at h', fun h' => by simp [hl] at h', fun h' => by simp [hl] at h'⟩
  | true =>
    by_cases h1 : c.circle
    · have := h.two hl ((circle_iff hl).2 h1)
      exact ⟨fun h' => by simp [hl] at h', fun _ _ => this, fun _ h' => absurd h1 h', fun _ h' => absurd h1 h', fun _ h' => absurd h1 h', fun _ h' => absurd h1 h'⟩
    · have h1' : ¬ circleO c.n (tT c) := fun h' => h1 ((circle_iff hl).1 h')
      by_cases h2 : c.noLat
      · have := h.three hl h1' (fun h' => (lat_iff hl).1 h' h2)
        exact ⟨fun h' => by simp [hl] at h', fun _ h' => absurd h' h1, fun _ _ _ => this, fun _ _ h' => absurd h2 h', fun _ _ h' => absurd h2 h', fun _ _ h' => absurd h2 h'⟩
      · obtain ⟨h3, _, _⟩ := h.ok hl h1' ((lat_iff hl).2 h2)
        exact absurd h3 hne
set_option maxRecDepth 100000 in
set_option maxHeartbeats 8000000 in
theorem cCheck_any (c : Cfg) (v : CfgV) (w : World) (hok : CfgOk c) (hat : CfgAt w c v) (hcap : c.rules.length ≤ v.rc) :
    Calls Tryz.prog 47 #[.agg (cfgCells c v)] w fun e w' => ∃ code L f, e = .returned (.tuple #[.agg (ordC L f), .int .i64 code]) ∧ (CheckIs c code ∧ (code = 0 → L = c.n ∧ f = tT c)) ∧ Below w.heap.size w w' := by
  have k1 : c.edges.length < 2 ^ 57 := Nat.lt_of_le_of_lt hok.edges (by decide)
  have k2 : c.rules.length < 2 ^ 57 := Nat.lt_of_le_of_lt hok.rules (by decide)
  have k3 : c.grants.length < 2 ^ 57 := Nat.lt_of_le_of_lt hok.grants (by decide)
  have HNEW := hide (fun w' (hb : Below w.heap.size w w') => new_any c v.ea v.ec w' k1 (hat.edges.below hb))
  have HRUL := hide (fun f w' (hb : Below w.heap.size w w') => areRules_any c f v.ra v.rc w' k2 hcap hok.texts (hat.rules.below hb))
  have HGRA := hide (fun (hn : c.n ≤ 6) w' (hb : Below w.heap.size w w') => areGrants_any c.n (tT c) c.grants v.ga v.gc w' hn k3 (hat.grants.below hb))
  have HB0 := hide (below_box w (.cells (cfgCells c v) 31))
  have HX0 := hide (box_new w c v)
  have HB1 := hide ((HB0.out).alloc (by simp) (.cells (ordC 0 noF) 105))
  have HX1 : Hid (BoxAt ((w.alloc (.cells (cfgCells c v) 31)).alloc (.cells (ordC 0 noF) 105)) w.heap.size c v) := HX0.out.below (below_box _ _) (by simp)
  have HN1 := hide (heap_alloc2_new w (.cells (cfgCells c v) 31) (.cells (ordC 0 noF) 105))
  clear hok hat hcap k1 k2 k3
  unfold cfgCells at *
  go_enter Tryz.func47, Tryz.ntmps47
  go_wp2_with (refine wpList_alloc_ord rfl rfl ?_)
  refine (HNEW.out _ HB1.out).mono ?_
  rintro e w1 ⟨code, L, f, rfl, hnew, hb1⟩
  have hbel1 := HB1.out.trans (hb1.mono (by simp; omega))
  have HR1 : Hid (w1.heap[w.heap.size + 1]? = some (.cells (ordC 0 noF) 105 (0, 0))) := Below.row hb1 HN1.out (lt_of_row HN1.out)
  have HX2 := hide (HX1.out.below hb1 HX1.out.lt)
  have HNEW2 := hide hnew
  have HN := hide (Go.heap_alloc_new w1 (.cells (ordC 0 noF) 105))
  have hlt1 := lt_of_row HR1.out
  have i2 : rowIs (w1.alloc (.cells (ordC 0 noF) 105)) w1.heap.size 37 := ⟨_, _, HN.out, ordC_size _ _⟩
  have HO3 : Hid (OrdAt ((w1.alloc (.cells (ordC 0 noF) 105)).setRow w1.heap.size (ordC L f)) w1.heap.size L f) := setRow_heap _ _ _ (ordC L f) _ _ HN.out
  have HR3 : Hid (((w1.alloc (.cells (ordC 0 noF) 105)).setRow w1.heap.size (ordC L f)).heap[w.heap.size + 1]? = some (.cells (ordC 0 noF) 105 (0, 0))) := (setRow_other _ _ _ _ (Nat.ne_of_lt hlt1)).trans (row_alloc' HR1.out)
  have HB3 : Hid (Below w1.heap.size w1 ((w1.alloc (.cells (ordC 0 noF) 105)).setRow w1.heap.size (ordC L f))) := below_setRow (below_box _ _) (Nat.le_refl _) _
  have HX3 := hide (HX2.out.below HB3.out HX2.out.lt)
  have hbel3 := hbel1.trans (HB3.out.mono hbel1.size)
  have i3 := HO3.out.is
  have a3 := HO3.out.at
  have j3 : rowIs ((w1.alloc (.cells (ordC 0 noF) 105)).setRow w1.heap.size (ordC L f)) (w.heap.size + 1) 37 := ⟨_, _, HR3.out, ordC_size _ _⟩
  obtain ⟨q0, q1, q2, q3⟩ := HX3.out.cells
  clear hb1 HNEW HX0 HX1 HX2 HB0 HB1 HN1 HR1 hnew HB3
  cases hcode : (code == 0)
  · have hne : Hid (code ≠ 0) := (show code ≠ 0 by simpa using hcode)
    have HW := hide (HNEW2.out.wrong hne.out)
    go_wp2_with (first | (refine wpList_alloc_ord rfl rfl ?_) | (refine wpList_build_zero rfl rfl ?_))
    exact bodyPost_ret (results_cell_tmp Tryz.results47 _ _ (w.heap.size + 1) _ (ordC 0 noF) (0, 0) _ (by simp) (setRow_heap _ _ _ _ _ _ HR3.out) Tryz.underlying105 rfl (by rw [Tryz.sizeOrder, ordC_size])) rfl ⟨code, 0, noF, rfl, ⟨HW.out, fun h => absurd h hne.out⟩, below_setRow hbel3 (by omega) _⟩
  obtain rfl : code = 0 := by simpa using hcode
  obtain ⟨hl, hnc, hnl, hL, hf⟩ := HNEW2.out.right
  obtain ⟨_, _, _, _, hn, hn6, _⟩ := labels_of hl
  have HRUL2 := hide (HRUL.out f)
  rw [← hn, ← hL] at HRUL2
  have HGRA2 := hide (HGRA.out hn6)
  rw [grants_iff hl, ← hL, ← hf] at HGRA2
  have HLF := hide (And.intro hL hf)
  have HP := hide (And.intro hl (And.intro hnc hnl))
  clear HRUL HGRA hl hnc hnl HNEW2 hL hf hn hn6 hcode
  go_wp2_with (refine wpList_alloc_ord rfl rfl ?_)
  refine (HRUL2.out _ hbel3).mono ?_
  rintro e w4 ⟨rfl, hb4⟩
  have hbel4 := hbel3.trans (hb4.mono hbel3.size)
  have HR4 : Hid (w4.heap[w.heap.size + 1]? = some (.cells (ordC 0 noF) 105 (0, 0))) := Below.row hb4 HR3.out (lt_of_row HR3.out)
  have HO4 := hide (HO3.out.below hb4 HO3.out.lt)
  have HX4 := hide (HX3.out.below hb4 HX3.out.lt)
  have i4 := HO4.out.is
  have a4 := HO4.out.at
  have j4 : rowIs w4 (w.heap.size + 1) 37 := ⟨_, _, HR4.out, ordC_size _ _⟩
  clear hb4 i3 a3 j3 i2 q0 q1 q2 q3 HN HO3 HR3 HX3
  obtain ⟨q0, q1, q2, q3⟩ := HX4.out.cells
  cases g1 : rulesB c
  · have G1 := hide g1
    clear g1
    go_wp2_with (refine wpList_build_zero rfl rfl ?_)
    exact bodyPost_ret (results_cell_tmp Tryz.results47 _ _ (w.heap.size + 1) _ (ordC 0 noF) (0, 0) _ (by simp) (setRow_heap _ _ _ _ _ _ HR4.out) Tryz.underlying105 rfl (by rw [Tryz.sizeOrder, ordC_size])) rfl ⟨4, 0, noF, rfl, ⟨⟨fun h => by simp [HP.out.1] at h, fun _ h => absurd h HP.out.2.1, fun _ _ h => absurd h HP.out.2.2, fun _ _ _ _ => rfl, fun _ _ _ h => by simp [G1.out] at h, fun _ _ _ h => by simp [G1.out] at h⟩, fun h => by simp at h⟩, below_setRow hbel4 (by omega) _⟩
  have G1 := hide g1
  clear g1
  go_wp2_with fail
  refine (HGRA2.out _ hbel4).mono ?_
  rintro e w5 ⟨rfl, hb5⟩
  have hbel5 := hbel4.trans (hb5.mono hbel4.size)
  have HR5 : Hid (w5.heap[w.heap.size + 1]? = some (.cells (ordC 0 noF) 105 (0, 0))) := Below.row hb5 HR4.out (lt_of_row HR4.out)
  have HO5 := hide (HO4.out.below hb5 HO4.out.lt)
  have i5 := HO5.out.is
  have a5 := HO5.out.at
  have j5 : rowIs w5 (w.heap.size + 1) 37 := ⟨_, _, HR5.out, ordC_size _ _⟩
  clear hb5 i4 a4 j4 q0 q1 q2 q3
  cases g2 : grantsB c
  · have G2 := hide g2
    clear g2
    go_wp2_with (refine wpList_build_zero rfl rfl ?_)
    exact bodyPost_ret (results_cell_tmp Tryz.results47 _ _ (w.heap.size + 1) _ (ordC 0 noF) (0, 0) _ (by simp) (setRow_heap _ _ _ _ _ _ HR5.out) Tryz.underlying105 rfl (by rw [Tryz.sizeOrder, ordC_size])) rfl ⟨5, 0, noF, rfl, ⟨⟨fun h => by simp [HP.out.1] at h, fun _ h => absurd h HP.out.2.1, fun _ _ h => absurd h HP.out.2.2, fun _ _ _ h => by simp [G1.out] at h, fun _ _ _ _ _ => rfl, fun _ _ _ _ h => by simp [G2.out] at h⟩, fun h => by simp at h⟩, below_setRow hbel5 (by omega) _⟩
  · have G2 := hide g2
    clear g2
    go_wp2
    exact bodyPost_ret (results_cell_tmp Tryz.results47 _ _ (w.heap.size + 1) _ (ordC L f) (0, 0) _ (by simp) (setRow_heap _ _ _ _ _ _ HR5.out) Tryz.underlying105 rfl (by rw [Tryz.sizeOrder, ordC_size])) rfl ⟨0, L, f, rfl, ⟨⟨fun h => by simp [HP.out.1] at h, fun _ h => absurd h HP.out.2.1, fun _ _ h => absurd h HP.out.2.2, fun _ _ _ h => by simp [G1.out] at h, fun _ _ _ _ h => by simp [G2.out] at h, fun _ _ _ _ _ => rfl⟩, fun _ => HLF.out⟩, below_setRow hbel5 (by omega) _⟩
end Go.Proofs.YtgigkiocdiffjaaGreat
