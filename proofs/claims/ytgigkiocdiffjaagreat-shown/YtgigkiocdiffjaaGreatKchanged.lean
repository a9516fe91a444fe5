/- veilkeep.changed. -/
import Derived.Test.YtgigkiocdiffjaaGreatS17
import Derived.Test.YtgigkiocdiffjaaGreatKless
import Derived.Test.YtgigkiocdiffjaaGreatKshow1
namespace Go.Proofs.YtgigkiocdiffjaaGreat
open Go.RowKit Veil
def showT (s : ByteArray) : ByteArray := txt (noMTo s s.size)
/-- How a view may change by a step that counts. -/
structure ChgOk (o : KS) (was now : ByteArray) : Prop where
  ins : o.kind = 1 → ∃ m, m ≤ (showT was).size ∧ showT now = (showT was).extract 0 m ++ o.text ++ (showT was).extract m (showT was).size
  less : o.kind = 2 ∨ o.kind = 3 → (bytes (showT now)).Sublist (bytes (showT was))
  more : o.kind = 4 → (bytes (showT was)).Sublist (bytes (showT now))
theorem showT_size (s : ByteArray) : (showT s).size ≤ s.size := by
  unfold showT txt
  rw [textF_size]
  exact noMTo_length s s.size
theorem o_cells {w : World} {g : Nat} {o : KS} {ty : TypeId} (h : w.heap[g]? = some (.cells o.cells ty (0, 0))) : w.cell? ⟨g, 0, none⟩ = some (.int .i64 o.kind) ∧ w.cell? ⟨g, 1, none⟩ = some (.int .i64 o.level) ∧ w.cell? ⟨g, 2, none⟩ = some (.int .i64 o.lo) ∧ w.cell? ⟨g, 3, none⟩ = some (.int .i64 o.hi) ∧ w.cell? ⟨g, 4, none⟩ = some (.int .i64 o.label) ∧ w.cell? ⟨g, 5, none⟩ = some (.string o.text) :=
  ⟨(cell_of_row _ _ _ _ _ _ h).trans rfl, (cell_of_row _ _ _ _ _ _ h).trans rfl, (cell_of_row _ _ _ _ _ _ h).trans rfl, (cell_of_row _ _ _ _ _ _ h).trans rfl, (cell_of_row _ _ _ _ _ _ h).trans rfl, (cell_of_row _ _ _ _ _ _ h).trans rfl⟩
set_option maxRecDepth 100000 in
set_option maxHeartbeats 4000000 in
theorem kchanged_any (o : KS) (was now : ByteArray) (w : World) (hw : was.size ≤ 1200) (hn : now.size ≤ 1200) (hk1 : 1 ≤ o.kind) (hk4 : o.kind ≤ 4) (ht : o.kind = 1 → o.text.size ≤ 1000000) (h : ChgOk o was now) :
    Calls Tryz.prog 37 #[.agg o.cells, .string was, .string now] w fun e w' => e = .returned (.bool true) ∧ Below w.heap.size w w' := by
  have HB0 := hide (below_box w (.cells o.cells 46))
  have HX0 := hide (Go.heap_alloc_new w (.cells o.cells 46))
  have H1 := hide (fun w' => kshownT_any was w' (by omega))
  have H2 := hide (fun w' => kshownT_any now w' (by omega))
  have HI := hide h.ins
  have HL := hide h.less
  have HM := hide h.more
  have z1 := showT_size was
  have z2 := showT_size now
  have HT := hide ht
  rw [show txt (noMTo was was.size) = showT was from rfl] at H1
  rw [show txt (noMTo now now.size) = showT now from rfl] at H2
  generalize showT was = a at *
  generalize showT now = b at *
  clear h ht
  obtain ⟨kind, level, lo, hi, label, text⟩ := o
  simp only at hk1 hk4 HI HL HM HT
  unfold KS.cells at *
  simp only at *
  go_enter Tryz.func37, Tryz.ntmps37
  go_wp2_with fail
  refine (H1.out _).mono ?_
  rintro e w1 ⟨rfl, hb1⟩
  have hbel1 := HB0.out.trans (hb1.mono HB0.out.size)
  have HX1 := hide (Below.row hb1 HX0.out (lt_of_row HX0.out))
  go_wp2_with fail
  refine (H2.out _).mono ?_
  rintro e w2 ⟨rfl, hb2⟩
  have hbel2 := hbel1.trans (hb2.mono hbel1.size)
  have hx2 := Below.row hb2 HX1.out (lt_of_row HX1.out)
  have q0 : w2.cell? ⟨w.heap.size, 0, none⟩ = some (.int .i64 kind) := (cell_of_row _ _ _ _ _ _ hx2).trans rfl
  have q5 : w2.cell? ⟨w.heap.size, 5, none⟩ = some (.string text) := (cell_of_row _ _ _ _ _ _ hx2).trans rfl
  clear hx2
  by_cases k1 : kind = 1
  · subst k1
    obtain ⟨m, hm, he⟩ := HI.out rfl
    have HE := hide he
    have hts := HT.out rfl
    clear he
    go_wp2_with fail
    refine (kwithin_any b a text w2 m hm (by omega) hts HE.out).mono ?_
    rintro e w3 ⟨rfl, hb3⟩
    go_wp2
    go_ret
    exact ⟨rfl, hbel2.trans (hb3.mono hbel2.size)⟩
  have e1 : (kind == 1) = false := by simpa using k1
  by_cases k2 : kind = 2
  · subst k2
    have HS := hide (HL.out (Or.inl rfl))
    go_wp2_with fail
    refine (kless_any b a w2 (by omega) (by omega) HS.out).mono ?_
    rintro e w3 ⟨rfl, hb3⟩
    go_wp2
    go_ret
    exact ⟨rfl, hbel2.trans (hb3.mono hbel2.size)⟩
  have e2 : (kind == 2) = false := by simpa using k2
  by_cases k3 : kind = 3
  · subst k3
    have HS := hide (HL.out (Or.inr rfl))
    go_wp2_with fail
    refine (kless_any b a w2 (by omega) (by omega) HS.out).mono ?_
    rintro e w3 ⟨rfl, hb3⟩
    go_wp2
    go_ret
    exact ⟨rfl, hbel2.trans (hb3.mono hbel2.size)⟩
  · obtain rfl : kind = 4 := by omega
    have HS := hide (HM.out rfl)
    go_wp2_with fail
    refine (kless_any a b w2 (by omega) (by omega) HS.out).mono ?_
    rintro e w3 ⟨rfl, hb3⟩
    go_wp2
    go_ret
    exact ⟨rfl, hbel2.trans (hb3.mono hbel2.size)⟩
end Go.Proofs.YtgigkiocdiffjaaGreat
