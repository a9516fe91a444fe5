/- veilref.label, leq. -/
import Derived.Test.YtgigkiocdiffjaaGreatRpat
import Derived.Test.YtgigkiocdiffjaaGreatCfg
namespace Go.Proofs.YtgigkiocdiffjaaGreat
open Go.RowKit Veil
theorem brow_cell {w : World} {g j : Nat} {A : List Bool} {ty : TypeId} (h : w.heap[g]? = some (.cells (bools A) ty (0, 0))) (hj : j < A.length) : w.cell? ⟨g, j, none⟩ = some (.bool (A.getD j false)) := by
  rw [cell_of_row _ _ _ _ _ _ h, bools_get]; simp [hj]
theorem brow_store {w : World} {g j : Nat} {A : List Bool} {ty : TypeId} (h : w.heap[g]? = some (.cells (bools A) ty (0, 0))) : (w.setCell ⟨g, j, none⟩ (.bool true)).heap[g]? = some (.cells (bools (A.set j true)) ty (0, 0)) := by
  rw [heap_setCell_same _ _ _ _ _ _ h, bools_set]
theorem relaxAll_snoc (E : List (Int × Int)) (A : List Bool) (i : Nat) (e : Int × Int) (h : E[i]? = some e) : relaxAll (E.take (i + 1)) A = relax (relaxAll (E.take i) A) e := by
  rw [List.take_add_one, h]; simp [relaxAll]
/-- A configuration in a box. -/
def BoxAt (w : World) (g : Nat) (c : Cfg) (v : CfgV) : Prop := w.heap[g]? = some (.cells (cfgCells c v) 31 (0, 0))
theorem BoxAt.below {w w' : World} {g B : Nat} {c : Cfg} {v : CfgV} (h : BoxAt w g c v) (hb : Below B w w') (hg : g < B) : BoxAt w' g c v := Below.row hb h hg
theorem BoxAt.lt {w : World} {g : Nat} {c : Cfg} {v : CfgV} (h : BoxAt w g c v) : g < w.heap.size := lt_of_row h
theorem BoxAt.cells {w : World} {g : Nat} {c : Cfg} {v : CfgV} (h : BoxAt w g c v) : w.cell? ⟨g, 0, none⟩ = some (.int .i64 c.labels) ∧ w.cell? ⟨g, 1, none⟩ = some (.slice v.ea c.edges.length v.ec) ∧ w.cell? ⟨g, 2, none⟩ = some (.slice v.ra c.rules.length v.rc) ∧ w.cell? ⟨g, 3, none⟩ = some (.slice v.ga c.grants.length v.gc) :=
  ⟨by rw [cell_of_row _ _ _ _ _ _ h]; rfl, by rw [cell_of_row _ _ _ _ _ _ h]; rfl, by rw [cell_of_row _ _ _ _ _ _ h]; rfl, by rw [cell_of_row _ _ _ _ _ _ h]; rfl⟩
theorem box_new (w : World) (c : Cfg) (v : CfgV) : BoxAt (w.alloc (.cells (cfgCells c v) 31)) w.heap.size c v := Go.heap_alloc_new _ _
theorem below_box (w : World) (o : Obj) : Below w.heap.size w (w.alloc o) := (Below.refl _ _).alloc (Nat.le_refl _) _

set_option maxHeartbeats 400000 in
theorem rlabel_any (c : Cfg) (v : CfgV) (a : Int) (w : World) :
    Calls Tryz.prog 148 #[.agg (cfgCells c v), .int .i64 a] w fun e w' => e = .returned (.bool (okL c.labels a)) ∧ Below w.heap.size w w' := by
  unfold cfgCells
  by_cases h : 0 ≤ a
  · go_enter Tryz.func148, Tryz.ntmps148
    go_wp2
    go_ret
    exact ⟨ret_bool (by simp [okL, h]), below_box _ _⟩
  · go_enter Tryz.func148, Tryz.ntmps148
    go_wp2
    go_ret
    exact ⟨ret_bool (by simp [okL]; omega), below_box _ _⟩

set_option maxRecDepth 100000 in
set_option maxHeartbeats 4000000 in
theorem rleq_any (c : Cfg) (v : CfgV) (a b : Nat) (w : World) (hl : labelsB c = true) (hat : CfgAt w c v) (ha : a < c.n) (hb : b < c.n) :
    Calls Tryz.prog 102 #[.agg (cfgCells c v), .int .i64 a, .int .i64 b] w fun e w' => e = .returned (.bool (c.le a b)) ∧ Below w.heap.size w w' := by
  obtain ⟨_, _, hE30, hE, hn, hn6, hn1⟩ := labels_of hl
  obtain ⟨L, E, R, G⟩ := c
  obtain ⟨ea, ec, ra, rc, ga, gc⟩ := v
  have hedge := hat.edges
  clear hat hl
  unfold Cfg.le
  simp only [Cfg.n] at *
  obtain ⟨n, rfl⟩ : ∃ n : Nat, L = n := ⟨L.toNat, hn.symm⟩
  simp only [Int.toNat_natCast] at *
  clear hn
  have hmk : ∀ w, (Instr.makeSlice 195 (.int .i64 (n : Int)) (.int .i64 (n : Int))).run Tryz.prog w = .ok (.slice (some ⟨w.heap.size, 0, none⟩) n n) (w.alloc (.cells (bools (fvec n fun _ => false)) 4)) := fun w => run_make_bools n (by omega) w
  have hz0 : (bools (fvec n fun _ => false))[a]? = some (.bool false) := by rw [bools_get, fvec_get _ _ _ ha]; rfl
  have hst : (bools (fvec n fun _ => false)).setIfInBounds a (.bool true) = bools (startL n a) := by
    rw [bools_set]
    have : fvec n (fun _ => false) = List.replicate n false := by
      apply List.ext_getElem?
      intro i
      by_cases hi : i < n
      · rw [fvec_get _ _ _ hi, List.getElem?_replicate, if_pos hi]
      · rw [List.getElem?_eq_none (by rw [fvec_length]; omega), List.getElem?_eq_none (by simp; omega)]
    rw [this]; rfl
  have HST := hide hst
  have HE := hide hE
  clear hst hE
  obtain ⟨eb, eo, hea, hblt, hcells⟩ : ∃ eb eo, (E = [] ∨ ea = some ⟨eb, eo, none⟩) ∧ (E = [] ∨ eb < w.heap.size) ∧ ∀ i p, E[i]? = some p → w.cell? ⟨eb, eo + i * 2, none⟩ = some (xE p) ∧ w.cell? ⟨eb, eo + i * 2 + 1, none⟩ = some (yE p) := by
    rcases hedge with h | ⟨b, off, h, h1, h2⟩
    · exact ⟨0, 0, Or.inl h, Or.inl h, fun i p hp => by rw [show E = [] from h] at hp; simp at hp⟩
    · exact ⟨b, off, Or.inr h, Or.inr h1, h2⟩
  clear hedge
  have HC := hide hcells
  have HA := hide hea
  have HBL := hide hblt
  clear hcells hblt hea
  unfold cfgCells
  go_enter Tryz.func102, Tryz.ntmps102
  go_wp2
  go_loopw [8] (fun i wr => ∃ k : Nat, k ≤ n ∧ i = .int .i64 k ∧ wr.heap[w.heap.size + 1]? = some (.cells (bools (roundsL E k (startL n a))) 4 (0, 0)) ∧ BoxAt wr w.heap.size ⟨n, E, R, G⟩ ⟨ea, ec, ra, rc, ga, gc⟩ ∧ Below w.heap.size w wr) (fun i _ => n - (intOf i).toNat)
  case atStart =>
    refine ⟨0, Nat.zero_le _, rfl, ?_, heap_alloc2_old _ _ _, (below_box _ _).alloc (by simp) _⟩
    rw [HST.out]; exact heap_alloc2_new _ _ _
  case round =>
    obtain ⟨wo, rfl⟩ : ∃ x, x = wr := ⟨_, rfl⟩
    obtain ⟨k, hk, rfl, hrow, hbox, hbel⟩ := hrel
    obtain ⟨q0, q1, q2, q3⟩ := hbox.cells
    have HR := hide hrow
    have HB := hide hbox
    by_cases hlt : k < n
    · clear hrow hbox q1 q2 q3
      go_wp2
      go_loopw [9] (fun i wr => ∃ j : Nat, j ≤ E.length ∧ i = .int .i64 j ∧ wr.heap[w.heap.size + 1]? = some (.cells (bools (relaxAll (E.take j) (roundsL E k (startL n a)))) 4 (0, 0)) ∧ BoxAt wr w.heap.size ⟨n, E, R, G⟩ ⟨ea, ec, ra, rc, ga, gc⟩ ∧ Below w.heap.size w wr) (fun i _ => E.length - (intOf i).toNat)
      case atStart => exact ⟨0, Nat.zero_le _, rfl, by simpa [relaxAll] using HR.out, HB.out, hbel⟩
      case round =>
        obtain ⟨j, hj, rfl, hrow, hbox, hbel2⟩ := hrel
        have HR2 := hide hrow
        have HB2 := hide hbox
        obtain ⟨q0', q1', q2', q3'⟩ := hbox.cells
        by_cases hjl : j < E.length
        · have hEne : E ≠ [] := fun e => by rw [e] at hjl; simp at hjl
          have hea : ea = some ⟨eb, eo, none⟩ := HA.out.resolve_left hEne
          have hbl : eb < w.heap.size := HBL.out.resolve_left hEne
          dsimp only at q1'
          rw [hea] at q1'
          have hej : E[j]? = some E[j] := List.getElem?_eq_getElem hjl
          obtain ⟨c1, c2⟩ := HC.out j _ hej
          have hin := HE.out _ (List.getElem_mem hjl)
          have HS := hide (relaxAll_snoc E (roundsL E k (startL n a)) j _ hej)
          generalize E[j] = e at *
          obtain ⟨e1, e2⟩ := e
          simp only at hin
          obtain ⟨h1, h2, h3, h4⟩ := hin
          obtain ⟨x, rfl⟩ := Int.eq_ofNat_of_zero_le h1
          obtain ⟨y, rfl⟩ := Int.eq_ofNat_of_zero_le h3
          have d1 : wr.cell? ⟨eb, eo + j * 2, none⟩ = some (.int .i64 x) := (hbel2.cell (p := ⟨eb, eo + j * 2, none⟩) hbl).trans c1
          have d2 : wr.cell? ⟨eb, eo + j * 2 + 1, none⟩ = some (.int .i64 y) := (hbel2.cell (p := ⟨eb, eo + j * 2 + 1, none⟩) hbl).trans c2
          have hlen : (relaxAll (E.take j) (roundsL E k (startL n a))).length = n := by rw [relaxAll_length, roundsL_length, startL_length]
          have r1 := brow_cell hrow (j := x) (by rw [hlen]; omega)
          have r2 := brow_cell hrow (j := y) (by rw [hlen]; omega)
          have f2 : wr.frozen? ⟨w.heap.size + 1, y, none⟩ = false := frozen_of_row _ _ _ _ _ hrow
          have hx : x < n := by omega
          have hy : y < n := by omega
          generalize hA : relaxAll (E.take j) (roundsL E k (startL n a)) = A at *
          clear hA hej c1 c2 hrow hbox hea h1 h2 h3 h4 hEne HR HB
          cases hg : A.getD x false
          · rw [hg] at r1
            have HG := hide hg
            clear hg
            go_wp2
            go_roundw
            case rel => exact ⟨j + 1, by omega, by go_num, by rw [HS.out, relax]; simp only [Int.toNat_natCast]; rw [HG.out]; exact HR2.out, HB2.out, hbel2⟩
            case measure => simp [intOf]; omega
          · rw [hg] at r1
            have HG := hide hg
            clear hg
            go_wp2
            go_roundw
            case rel => exact ⟨j + 1, by omega, by go_num, by rw [HS.out, relax]; simp only [Int.toNat_natCast]; rw [HG.out, if_pos rfl]; exact brow_store HR2.out, row_other HB2.out (by omega), hbel2.setCell (by dsimp only; omega) _⟩
            case measure => simp [intOf]; omega
        · have : j = E.length := by omega
          subst this
          clear hrow hbox
          go_wp2
          go_roundw
          case rel => exact ⟨k + 1, by omega, by go_num, by rw [roundsL]; have := HR2.out; rwa [List.take_length] at this, HB2.out, hbel2⟩
          case measure => simp [intOf]; omega
    · have : k = n := by omega
      subst this
      have r1 := brow_cell hrow (j := b) (by rw [roundsL_length, startL_length]; omega)
      have HLE := hide (show (roundsL E k (startL k a)).getD b false = leB E k a b from rfl)
      clear hrow hbox
      go_wp2
      go_ret
      exact ⟨ret_bool HLE.out, hbel⟩
end Go.Proofs.YtgigkiocdiffjaaGreat
