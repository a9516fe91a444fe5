/- areLabels, New. -/
import Derived.Test.YtgigkiocdiffjaaGreatOrder4
namespace Go.Proofs.YtgigkiocdiffjaaGreat
open Go.RowKit Veil
set_option maxRecDepth 100000 in
set_option maxHeartbeats 4000000 in
theorem areLabels_any (c : Cfg) (ea : Option Addr) (ec : Nat) (w : World) (k1 : c.edges.length < 2 ^ 57) (hat : SeqAt xE yE w ea c.edges) :
    Calls Tryz.prog 143 #[.int .i64 c.labels, .slice ea c.edges.length ec] w fun e w' => e = .returned (.bool (labelsB c)) ∧ Below w.heap.size w w' := by
  have HE := hide hat
  have HD := hide (show labelsB c = (decide (1 ≤ c.labels) && decide (c.labels ≤ 6) && decide (c.edges.length ≤ 30) && c.edges.all (edgeOk c.labels)) from rfl)
  have HQ := hide (fun (a : Int) (w' : World) => inRange_any c.labels a w')
  clear hat
  generalize hL : c.labels = L at *
  clear hL
  by_cases h1 : L < 1
  · go_enter Tryz.func143, Tryz.ntmps143
    go_wp2
    go_ret
    exact ⟨ret_bool (by rw [HD.out]; simp; omega), Below.refl _ _⟩
  by_cases h2 : 6 < L
  · go_enter Tryz.func143, Tryz.ntmps143
    go_wp2
    go_ret
    exact ⟨ret_bool (by rw [HD.out]; simp; omega), Below.refl _ _⟩
  by_cases h3 : 30 < c.edges.length
  · have h3' : (30 : Int) < (c.edges.length : Int) := by omega
    go_enter Tryz.func143, Tryz.ntmps143
    go_wp2
    go_ret
    exact ⟨ret_bool (by rw [HD.out]; simp; omega), Below.refl _ _⟩
  have HR := hide (show labelsB c = c.edges.all (edgeOk L) by rw [HD.out]; simp [show 1 ≤ L by omega, show L ≤ 6 by omega, show c.edges.length ≤ 30 by omega])
  clear HD
  go_enter Tryz.func143, Tryz.ntmps143
  go_wp2
  go_loopw [20] (fun i wr => ∃ k : Nat, k ≤ c.edges.length ∧ i = .int .i64 k ∧ (c.edges.take k).all (edgeOk L) = true ∧ Below w.heap.size w wr) (fun i _ => c.edges.length - (intOf i).toNat)
  case atStart => exact ⟨0, Nat.zero_le _, rfl, by simp, Below.refl _ _⟩
  case round =>
    obtain ⟨k, hk, rfl, hall, hbel⟩ := hrel
    have HA := hide hall
    clear hall
    by_cases hlt : k < c.edges.length
    · have hek : c.edges[k]? = some c.edges[k] := List.getElem?_eq_getElem hlt
      obtain ⟨b, off, hao, hbl, d1, d2⟩ := HE.out.at hbel hek
      have HS := hide (all_take_succ c.edges (edgeOk L) k _ hek)
      have HF := hide (all_false_of c.edges (edgeOk L) k _ hek)
      have hidx : ∀ w', (Instr.indexAt 27 (.slice ea c.edges.length ec) (.int .i64 (k : Int))).run Tryz.prog w' = .ok (.pointer (some ⟨b, off + k * 2, none⟩)) w' := by
        intro w'
        have hji : (k : Int) < (c.edges.length : Int) := by omega
        rw [hao]
        go_simp
      generalize c.edges[k] = e at *
      obtain ⟨e1, e2⟩ := e
      simp only [xE, yE] at d1 d2
      have hbl2 : b < wr.heap.size := Nat.lt_of_lt_of_le hbl hbel.size
      have HOK := hide (show edgeOk L (e1, e2) = (okL L e1 && okL L e2 && !(e1 == e2)) from rfl)
      clear hek hao
      go_wp2_with fail
      refine (HQ.out e1 _).mono ?_
      rintro e w1 ⟨rfl, rfl⟩
      have hbel1 := hbel.alloc hbel.size (.cells #[.int .i64 e1, .int .i64 e2] 169)
      cases g1 : okL L e1
      · have G1 := hide g1
        clear g1
        go_wp2
        go_ret
        exact ⟨ret_bool (by rw [HR.out, HF.out (by rw [HOK.out, G1.out]; rfl)]), hbel1⟩
      go_wp2_with fail
      refine (HQ.out e2 _).mono ?_
      rintro e w2 ⟨rfl, rfl⟩
      have G1 := hide g1
      clear g1
      cases g2 : okL L e2
      · have G2 := hide g2
        clear g2
        go_wp2
        go_ret
        exact ⟨ret_bool (by rw [HR.out, HF.out (by rw [HOK.out, G2.out]; simp)]), hbel1⟩
      have G2 := hide g2
      clear g2
      by_cases he : e1 = e2
      · have heb : (e1 == e2) = true := by simpa using he
        have EB := hide heb
        clear he
        go_wp2
        go_ret
        exact ⟨ret_bool (by rw [HR.out, HF.out (by rw [HOK.out, EB.out]; simp)]), hbel1⟩
      · have heb : (e1 == e2) = false := by simpa using he
        have EB := hide heb
        clear he
        go_wp2
        go_roundw
        case rel => exact ⟨k + 1, by omega, by go_num, by rw [HS.out, HA.out, HOK.out, G1.out, G2.out, EB.out]; rfl, hbel1⟩
        case measure => simp [intOf]; omega
    · have hke : k = c.edges.length := by omega
      have HT := hide (show c.edges.all (edgeOk L) = true by have := HA.out; rwa [hke, List.take_length] at this)
      go_wp2
      go_ret
      exact ⟨ret_bool (by rw [HR.out, HT.out]), hbel⟩
theorem results_cell_tmp {P : Program} {fn : Func} {p u : Tmp} {ty : TypeId} (h : fn.results = #[.cell p ty, .tmp u]) (tmps : Array Value) (w : World) (g : Nat) (t : TypeId) (cs : Array Value) (fr : Nat × Nat) (d : TypeDesc)
    (hp : tmps.getD p undef = .pointer (some ⟨g, 0, none⟩)) (hg : w.heap[g]? = some (.cells cs t fr))
    (hu : P.underlying ty = some d) (hd : (match d with | .struct _ | .array _ _ => true | _ => false) = true) (hi : (P.info? ty).map (·.size) = some cs.size) :
    (results fn tmps).run P w = .ok (.tuple #[.agg cs, tmps.getD u undef]) w := by
  have hp' : tmps[p]?.getD undef = .pointer (some ⟨g, 0, none⟩) := by simpa using hp
  simp [results, h, hp', asAddr, run_loadVar_row w g t ty cs fr d hg hu hd hi]
/-- What New answers. -/
structure NewIs (c : Cfg) (code L : Int) (f : Nat → Nat → Bool) : Prop where
  one : labelsB c = false → code = 1
  two : labelsB c = true → circleO c.n (tabF c.edges c.n c.n) → code = 2
  three : labelsB c = true → ¬ circleO c.n (tabF c.edges c.n c.n) → ¬ latO c.n (tabF c.edges c.n c.n) → code = 3
  ok : labelsB c = true → ¬ circleO c.n (tabF c.edges c.n c.n) → latO c.n (tabF c.edges c.n c.n) → code = 0 ∧ L = c.n ∧ f = tabF c.edges c.n c.n
set_option maxRecDepth 100000 in
set_option maxHeartbeats 4000000 in
theorem new_any (c : Cfg) (ea : Option Addr) (ec : Nat) (w : World) (k1 : c.edges.length < 2 ^ 57) (hat : SeqAt xE yE w ea c.edges) :
    Calls Tryz.prog 98 #[.int .i64 c.labels, .slice ea c.edges.length ec] w fun e w' => ∃ code L f, e = .returned (.tuple #[.agg (ordC L f), .int .i64 code]) ∧ NewIs c code L f ∧ Below w.heap.size w w' := by
  have HE := hide hat
  have HK := hide k1
  have HL := hide (fun h => @labels_of c h)
  have HQ := hide (fun (w' : World) (h : SeqAt xE yE w' ea c.edges) => areLabels_any c ea ec w' k1 h)
  have HN := hide (Go.heap_alloc_new w (.cells (ordC 0 noF) 105))
  have hb0 := below_box w (.cells (ordC 0 noF) 105)
  clear hat k1
  go_enter Tryz.func98, Tryz.ntmps98
  go_wp2_with (refine wpList_alloc_ord rfl rfl ?_)
  refine (HQ.out _ (HE.out.below hb0)).mono ?_
  rintro e w1 ⟨rfl, hb1⟩
  have hbel1 := hb0.trans (hb1.mono (by simp))
  have HR1 : Hid (w1.heap[w.heap.size]? = some (.cells (ordC 0 noF) 105 (0, 0))) := Below.row hb1 HN.out (by simp)
  have i1 : rowIs w1 w.heap.size 37 := ⟨_, _, HR1.out, ordC_size _ _⟩
  clear hb1 hb0 HN HQ
  cases hl : labelsB c
  · have H1 := hide hl
    clear hl
    go_wp2_with (refine wpList_build_zero rfl rfl ?_)
    exact bodyPost_ret (results_cell_tmp Tryz.results98 _ _ w.heap.size _ (ordC 0 noF) (0, 0) _ (by simp) (setRow_heap _ _ _ _ _ _ HR1.out) Tryz.underlying105 rfl (by rw [Tryz.sizeOrder, ordC_size])) rfl ⟨1, 0, noF, rfl, ⟨fun _ => rfl, fun h => by simp [H1.out] at h, fun h => by simp [H1.out] at h, fun h => by simp [H1.out] at h⟩, below_setRow hbel1 (Nat.le_refl _) _⟩
  obtain ⟨hL1, hL2, hL3, hL4, hL5, hL6, hL7⟩ := HL.out hl
  have HQ := hide (fun w' h => follow_any c.n c.edges ea ec w' hL6 hL3 hL4 h)
  rw [hL5] at HQ
  have HLn := hide hL5
  have HLt := hide hl
  clear hL1 hL2 hL3 hL4 hL5 hL7 hl HL
  go_wp2_with fail
  refine (HQ.out _ (HE.out.below hbel1)).mono ?_
  rintro e w2 ⟨rfl, hb2⟩
  rw [← HLn.out]
  generalize hT : tabF c.edges c.n c.n = T at *
  generalize hn : c.n = n at *
  have hbel2 := hbel1.trans (hb2.mono hbel1.size)
  have HR2 : Hid (w2.heap[w.heap.size]? = some (.cells (ordC 0 noF) 105 (0, 0))) := Below.row hb2 HR1.out (lt_of_row HR1.out)
  have HN := hide (Go.heap_alloc_new w2 (.cells (ordC 0 noF) 105))
  have i2 : rowIs (w2.alloc (.cells (ordC 0 noF) 105)) w2.heap.size 37 := ⟨_, _, HN.out, ordC_size _ _⟩
  have HO3 : Hid (OrdAt ((w2.alloc (.cells (ordC 0 noF) 105)).setRow w2.heap.size (ordC n T)) w2.heap.size n T) := setRow_heap _ _ _ (ordC n T) _ _ HN.out
  have hlt2 := lt_of_row HR2.out
  have HR3 : Hid (((w2.alloc (.cells (ordC 0 noF) 105)).setRow w2.heap.size (ordC n T)).heap[w.heap.size]? = some (.cells (ordC 0 noF) 105 (0, 0))) := (setRow_other _ _ _ _ (Nat.ne_of_lt hlt2)).trans (row_alloc' HR2.out)
  have i3 := HO3.out.is
  have a3 := HO3.out.at
  have hbel3 : Below w.heap.size w ((w2.alloc (.cells (ordC 0 noF) 105)).setRow w2.heap.size (ordC n T)) := below_setRow (hbel2.alloc hbel2.size _) hbel2.size _
  clear hb2 i1 HQ
  go_wp2_with (refine wpList_alloc_ord rfl rfl ?_)
  refine (hasCircle_any n T _ hL6).mono ?_
  rintro e w4 ⟨⟨r, rfl, hr⟩, hb4⟩
  have hbel4 := hbel3.trans (hb4.mono hbel3.size)
  have HR4 : Hid (w4.heap[w.heap.size]? = some (.cells (ordC 0 noF) 105 (0, 0))) := Below.row hb4 HR3.out (lt_of_row HR3.out)
  have HO4 := hide (HO3.out.below hb4 HO3.out.lt)
  have i4 : rowIs w4 w.heap.size 37 := ⟨_, _, HR4.out, ordC_size _ _⟩
  have j4 := HO4.out.is
  have a4 := HO4.out.at
  have HC := hide hr
  clear hb4 i3 a3 i2 hr HN HO3 HR3 HR2 HR1 hbel3 hbel2 hbel1
  cases r
  · go_wp2_with fail
    refine (isLattice_any n T _ hL6).mono ?_
    rintro e w5 ⟨⟨r2, rfl, hr2⟩, hb5⟩
    have hbel5 := hbel4.trans (hb5.mono hbel4.size)
    have HR5 : Hid (w5.heap[w.heap.size]? = some (.cells (ordC 0 noF) 105 (0, 0))) := Below.row hb5 HR4.out (lt_of_row HR4.out)
    have HO5 := hide (HO4.out.below hb5 HO4.out.lt)
    have i5 : rowIs w5 w.heap.size 37 := ⟨_, _, HR5.out, ordC_size _ _⟩
    have j5 := HO5.out.is
    have a5 := HO5.out.at
    have HD := hide hr2
    clear hb5 i4 j4 a4 hr2
    cases r2
    · go_wp2_with (refine wpList_build_zero rfl rfl ?_)
      exact bodyPost_ret (results_cell_tmp Tryz.results98 _ _ w.heap.size _ (ordC 0 noF) (0, 0) _ (by simp) (setRow_heap _ _ _ _ _ _ HR5.out) Tryz.underlying105 rfl (by rw [Tryz.sizeOrder, ordC_size])) rfl ⟨3, 0, noF, rfl, ⟨fun h => by simp [HLt.out] at h, fun _ h => by subst hn; rw [hT] at h; have := HC.out.2 h; simp at this, fun _ _ _ => rfl, fun _ _ h => by subst hn; rw [hT] at h; have := HD.out.2 h; simp at this⟩, below_setRow hbel5 (Nat.le_refl _) _⟩
    · go_wp2
      exact bodyPost_ret (results_cell_tmp Tryz.results98 _ _ w.heap.size _ (ordC n T) (0, 0) _ (by simp) (setRow_heap _ _ _ _ _ _ HR5.out) Tryz.underlying105 rfl (by rw [Tryz.sizeOrder, ordC_size])) rfl ⟨0, n, T, rfl, ⟨fun h => by simp [HLt.out] at h, fun _ h => by subst hn; rw [hT] at h; have := HC.out.2 h; simp at this, fun _ _ h => by subst hn; rw [hT] at h; exact absurd (HD.out.1 (by simp)) h, fun _ _ _ => by subst hn; exact ⟨rfl, rfl, hT.symm⟩⟩, below_setRow hbel5 (Nat.le_refl _) _⟩
  · go_wp2_with (refine wpList_build_zero rfl rfl ?_)
    exact bodyPost_ret (results_cell_tmp Tryz.results98 _ _ w.heap.size _ (ordC 0 noF) (0, 0) _ (by simp) (setRow_heap _ _ _ _ _ _ HR4.out) Tryz.underlying105 rfl (by rw [Tryz.sizeOrder, ordC_size])) rfl ⟨2, 0, noF, rfl, ⟨fun h => by simp [HLt.out] at h, fun _ _ => rfl, fun _ h => by subst hn; rw [hT] at h; exact absurd (HC.out.1 (by simp)) h, fun _ h => by subst hn; rw [hT] at h; exact absurd (HC.out.1 (by simp)) h⟩, below_setRow hbel4 (Nat.le_refl _) _⟩
end Go.Proofs.YtgigkiocdiffjaaGreat
