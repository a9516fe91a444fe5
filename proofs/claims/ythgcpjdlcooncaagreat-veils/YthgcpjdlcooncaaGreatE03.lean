/- Rleq, Rjoin, Rlabels. -/
import Derived.Test.YthgcpjdlcooncaaGreatE02
namespace Go.Proofs.YthgcpjdlcooncaaGreat
open Go.RowKit Veil
theorem brow_cell {w : World} {g j : Nat} {A : List Bool} {ty : TypeId} (h : w.heap[g]? = some (.cells (bools A) ty (0, 0))) (hj : j < A.length) : w.cell? ⟨g, j, none⟩ = some (.bool (A.getD j false)) := by
  rw [cell_of_row _ _ _ _ _ _ h, bools_get]; simp [hj]
theorem brow_store {w : World} {g j : Nat} {A : List Bool} {ty : TypeId} (h : w.heap[g]? = some (.cells (bools A) ty (0, 0))) : (w.setCell ⟨g, j, none⟩ (.bool true)).heap[g]? = some (.cells (bools (A.set j true)) ty (0, 0)) := by
  rw [heap_setCell_same _ _ _ _ _ _ h, bools_set]
theorem relaxAll_snoc (E : List (Int × Int)) (A : List Bool) (i : Nat) (e : Int × Int) (h : E[i]? = some e) : relaxAll (E.take (i + 1)) A = relax (relaxAll (E.take i) A) e := by
  rw [List.take_add_one, h]; simp [relaxAll]
/-- A configuration in a box. -/
def BoxAt (w : World) (g : Nat) (c : Cfg) (v : CfgV) : Prop := w.heap[g]? = some (.cells (cfgCells c v) 46 (0, 0))
theorem BoxAt.below {w w' : World} {g B : Nat} {c : Cfg} {v : CfgV} (h : BoxAt w g c v) (hb : Below B w w') (hg : g < B) : BoxAt w' g c v := Below.row hb h hg
theorem BoxAt.lt {w : World} {g : Nat} {c : Cfg} {v : CfgV} (h : BoxAt w g c v) : g < w.heap.size := lt_of_row h
theorem BoxAt.cells {w : World} {g : Nat} {c : Cfg} {v : CfgV} (h : BoxAt w g c v) : w.cell? ⟨g, 0, none⟩ = some (.int .i64 c.labels) ∧ w.cell? ⟨g, 1, none⟩ = some (.slice v.ea c.edges.length v.ec) ∧ w.cell? ⟨g, 2, none⟩ = some (.slice v.ra c.rules.length v.rc) ∧ w.cell? ⟨g, 3, none⟩ = some (.slice v.ga c.grants.length v.gc) :=
  ⟨by rw [cell_of_row _ _ _ _ _ _ h]; rfl, by rw [cell_of_row _ _ _ _ _ _ h]; rfl, by rw [cell_of_row _ _ _ _ _ _ h]; rfl, by rw [cell_of_row _ _ _ _ _ _ h]; rfl⟩
theorem box_new (w : World) (c : Cfg) (v : CfgV) : BoxAt (w.alloc (.cells (cfgCells c v) 46)) w.heap.size c v := Go.heap_alloc_new _ _
theorem below_box (w : World) (o : Obj) : Below w.heap.size w (w.alloc o) := (Below.refl _ _).alloc (Nat.le_refl _) _

set_option maxHeartbeats 400000 in
theorem rlabel_any (c : Cfg) (v : CfgV) (a : Int) (w : World) :
    Calls Tryz.prog 96 #[.agg (cfgCells c v), .int .i64 a] w fun e w' => e = .returned (.bool (okL c.labels a)) ∧ Below w.heap.size w w' := by
  unfold cfgCells
  by_cases h : 0 ≤ a
  · go_enter Tryz.func96, Tryz.ntmps96
    go_wp2
    go_ret
    exact ⟨ret_bool (by simp [okL, h]), below_box _ _⟩
  · go_enter Tryz.func96, Tryz.ntmps96
    go_wp2
    go_ret
    exact ⟨ret_bool (by simp [okL]; omega), below_box _ _⟩

set_option maxRecDepth 100000 in
set_option maxHeartbeats 4000000 in
theorem rleq_any (c : Cfg) (v : CfgV) (a b : Nat) (w : World) (hl : labelsB c = true) (hat : CfgAt w c v) (ha : a < c.n) (hb : b < c.n) :
    Calls Tryz.prog 57 #[.agg (cfgCells c v), .int .i64 a, .int .i64 b] w fun e w' => e = .returned (.bool (c.le a b)) ∧ Below w.heap.size w w' := by
  obtain ⟨_, _, hE30, hE, hn, hn6, hn1⟩ := labels_of hl
  obtain ⟨L, E, R, G⟩ := c
  obtain ⟨ea, ec, ra, rc, ga, gc⟩ := v
  have hedge := hat.edges
  clear hat hl
  unfold Cfg.le
  simp only [Cfg.n] at *
  obtain ⟨n, rfl⟩ : ∃ n : Nat, L = n := ⟨L.toNat, hn.symm⟩
  simp only [Int.toNat_natCast] at *
  clear hn
  have hmk : ∀ w, (Instr.makeSlice 92 (.int .i64 (n : Int)) (.int .i64 (n : Int))).run Tryz.prog w = .ok (.slice (some ⟨w.heap.size, 0, none⟩) n n) (w.alloc (.cells (bools (fvec n fun _ => false)) 4)) := fun w => run_make_bools n (by omega) w
  have hz0 : (bools (fvec n fun _ => false))[a]? = some (.bool false) := by rw [bools_get, fvec_get _ _ _ ha]; rfl
  have hst : (bools (fvec n fun _ => false)).setIfInBounds a (.bool true) = bools (startL n a) := by
    rw [bools_set]
    have : fvec n (fun _ => false) = List.replicate n false := by
      apply List.ext_getElem?
      intro i
      by_cases hi : i < n
      · rw [fvec_get _ _ _ hi, List.getElem?_replicate, if_pos hi]
      · rw [List.getElem?_eq_none (by rw [fvec_length]; omega), List.getElem?_eq_none (by simp; omega)]
    rw [this]; rfl
  have HST := hide hst
  have HE := hide hE
  clear hst hE
  obtain ⟨eb, eo, hea, hblt, hcells⟩ : ∃ eb eo, (E = [] ∨ ea = some ⟨eb, eo, none⟩) ∧ (E = [] ∨ eb < w.heap.size) ∧ ∀ i p, E[i]? = some p → w.cell? ⟨eb, eo + i * 2, none⟩ = some (xE p) ∧ w.cell? ⟨eb, eo + i * 2 + 1, none⟩ = some (yE p) := by
    rcases hedge with h | ⟨b, off, h, h1, h2⟩
    · exact ⟨0, 0, Or.inl h, Or.inl h, fun i p hp => by rw [show E = [] from h] at hp; simp at hp⟩
    · exact ⟨b, off, Or.inr h, Or.inr h1, h2⟩
  clear hedge
  have HC := hide hcells
  have HA := hide hea
  have HBL := hide hblt
  clear hcells hblt hea
  unfold cfgCells
  go_enter Tryz.func57, Tryz.ntmps57
  go_wp2
  go_loopw [8] (fun i wr => ∃ k : Nat, k ≤ n ∧ i = .int .i64 k ∧ wr.heap[w.heap.size + 1]? = some (.cells (bools (roundsL E k (startL n a))) 4 (0, 0)) ∧ BoxAt wr w.heap.size ⟨n, E, R, G⟩ ⟨ea, ec, ra, rc, ga, gc⟩ ∧ Below w.heap.size w wr) (fun i _ => n - (intOf i).toNat)
  case atStart =>
    refine ⟨0, Nat.zero_le _, rfl, ?_, heap_alloc2_old _ _ _, (below_box _ _).alloc (by simp) _⟩
    rw [HST.out]; exact heap_alloc2_new _ _ _
  case round =>
    obtain ⟨wo, rfl⟩ : ∃ x, x = wr := ⟨_, rfl⟩
    obtain ⟨k, hk, rfl, hrow, hbox, hbel⟩ := hrel
    obtain ⟨q0, q1, q2, q3⟩ := hbox.cells
    have HR := hide hrow
    have HB := hide hbox
    by_cases hlt : k < n
    · clear hrow hbox q1 q2 q3
      go_wp2
      go_loopw [9] (fun i wr => ∃ j : Nat, j ≤ E.length ∧ i = .int .i64 j ∧ wr.heap[w.heap.size + 1]? = some (.cells (bools (relaxAll (E.take j) (roundsL E k (startL n a)))) 4 (0, 0)) ∧ BoxAt wr w.heap.size ⟨n, E, R, G⟩ ⟨ea, ec, ra, rc, ga, gc⟩ ∧ Below w.heap.size w wr) (fun i _ => E.length - (intOf i).toNat)
      case atStart => exact ⟨0, Nat.zero_le _, rfl, by simpa [relaxAll] using HR.out, HB.out, hbel⟩
      case round =>
        obtain ⟨j, hj, rfl, hrow, hbox, hbel2⟩ := hrel
        have HR2 := hide hrow
        have HB2 := hide hbox
        obtain ⟨q0', q1', q2', q3'⟩ := hbox.cells
        by_cases hjl : j < E.length
        · have hEne : E ≠ [] := fun e => by rw [e] at hjl; simp at hjl
          have hea : ea = some ⟨eb, eo, none⟩ := HA.out.resolve_left hEne
          have hbl : eb < w.heap.size := HBL.out.resolve_left hEne
          dsimp only at q1'
          rw [hea] at q1'
          have hej : E[j]? = some E[j] := List.getElem?_eq_getElem hjl
          obtain ⟨c1, c2⟩ := HC.out j _ hej
          have hin := HE.out _ (List.getElem_mem hjl)
          have HS := hide (relaxAll_snoc E (roundsL E k (startL n a)) j _ hej)
          generalize E[j] = e at *
          obtain ⟨e1, e2⟩ := e
          simp only at hin
          obtain ⟨h1, h2, h3, h4⟩ := hin
          obtain ⟨x, rfl⟩ := Int.eq_ofNat_of_zero_le h1
          obtain ⟨y, rfl⟩ := Int.eq_ofNat_of_zero_le h3
          have d1 : wr.cell? ⟨eb, eo + j * 2, none⟩ = some (.int .i64 x) := (hbel2.cell (p := ⟨eb, eo + j * 2, none⟩) hbl).trans c1
          have d2 : wr.cell? ⟨eb, eo + j * 2 + 1, none⟩ = some (.int .i64 y) := (hbel2.cell (p := ⟨eb, eo + j * 2 + 1, none⟩) hbl).trans c2
          have hlen : (relaxAll (E.take j) (roundsL E k (startL n a))).length = n := by rw [relaxAll_length, roundsL_length, startL_length]
          have r1 := brow_cell hrow (j := x) (by rw [hlen]; omega)
          have r2 := brow_cell hrow (j := y) (by rw [hlen]; omega)
          have f2 : wr.frozen? ⟨w.heap.size + 1, y, none⟩ = false := frozen_of_row _ _ _ _ _ hrow
          have hx : x < n := by omega
          have hy : y < n := by omega
          generalize hA : relaxAll (E.take j) (roundsL E k (startL n a)) = A at *
          clear hA hej c1 c2 hrow hbox hea h1 h2 h3 h4 hEne HR HB
          cases hg : A.getD x false
          · rw [hg] at r1
            have HG := hide hg
            clear hg
            go_wp2
            go_roundw
            case rel => exact ⟨j + 1, by omega, by go_num, by rw [HS.out, relax]; simp only [Int.toNat_natCast]; rw [HG.out]; exact HR2.out, HB2.out, hbel2⟩
            case measure => simp [intOf]; omega
          · rw [hg] at r1
            have HG := hide hg
            clear hg
            go_wp2
            go_roundw
            case rel => exact ⟨j + 1, by omega, by go_num, by rw [HS.out, relax]; simp only [Int.toNat_natCast]; rw [HG.out, if_pos rfl]; exact brow_store HR2.out, row_other HB2.out (by omega), hbel2.setCell (by dsimp only; omega) _⟩
            case measure => simp [intOf]; omega
        · have : j = E.length := by omega
          subst this
          clear hrow hbox
          go_wp2
          go_roundw
          case rel => exact ⟨k + 1, by omega, by go_num, by rw [roundsL]; have := HR2.out; rwa [List.take_length] at this, HB2.out, hbel2⟩
          case measure => simp [intOf]; omega
    · have : k = n := by omega
      subst this
      have r1 := brow_cell hrow (j := b) (by rw [roundsL_length, startL_length]; omega)
      have HLE := hide (show (roundsL E k (startL k a)).getD b false = leB E k a b from rfl)
      clear hrow hbox
      go_wp2
      go_ret
      exact ⟨ret_bool HLE.out, hbel⟩
end Go.Proofs.YthgcpjdlcooncaaGreat
namespace Go.Proofs.YthgcpjdlcooncaaGreat
open Go.RowKit Veil
theorem all_range_succ (k : Nat) (f : Nat → Bool) : (List.range (k + 1)).all f = ((List.range k).all f && f k) := by rw [List.range_succ, List.all_append]; simp
theorem ret_int' {a b : Int} (h : a = b) : Ending.returned (.int .i64 a) = .returned (.int .i64 b) := by rw [h]
theorem all_false {n k : Nat} {f : Nat → Bool} (h : k ≤ n) (hf : (List.range k).all f = false) : (List.range n).all f = false := by
  rw [List.all_eq_false] at *
  obtain ⟨x, hx, h1⟩ := hf
  exact ⟨x, by simp at *; omega, h1⟩

theorem isJoin_def (c : Cfg) (a b j : Nat) : c.isJoin a b j = ((c.le a j && c.le b j) && (List.range c.n).all fun k => !((c.le a k && c.le b k) && !c.le j k)) := rfl
set_option maxRecDepth 100000 in
set_option maxHeartbeats 8000000 in
theorem rjoin_any (c : Cfg) (v : CfgV) (a b : Nat) (w : World) (hl : labelsB c = true) (hat : CfgAt w c v) (ha : a < c.n) (hb : b < c.n) :
    Calls Tryz.prog 58 #[.agg (cfgCells c v), .int .i64 a, .int .i64 b] w fun e w' => e = .returned (.int .i64 (c.join a b)) ∧ Below w.heap.size w w' := by
  obtain ⟨_, _, _, _, hn, hn6, hn1⟩ := labels_of hl
  have hle1 : (c.n : Int) ≤ c.labels := by omega
  have hle2 : c.labels ≤ (c.n : Int) := by omega
  have HL := hide hl
  have HAT := hide hat
  clear hl hat hn
  have hleq : ∀ (x y : Nat) (w' : World), x < c.n → y < c.n → Below w.heap.size w w' → Calls Tryz.prog 57 #[.agg (cfgCells c v), .int .i64 x, .int .i64 y] w' fun e w'' => e = .returned (.bool (c.le x y)) ∧ Below w'.heap.size w' w'' :=
    fun x y w' hx hy hb => rleq_any c v x y w' HL.out (HAT.out.below hb) hx hy
  have HQ := hide hleq
  clear hleq
  unfold cfgCells at *
  go_enter Tryz.func58, Tryz.ntmps58
  go_wp2
  go_loopw [7] (fun i wr => ∃ j : Nat, j ≤ c.n ∧ i = .int .i64 j ∧ (∀ x, x < j → c.isJoin a b x = false) ∧ BoxAt wr w.heap.size c v ∧ Below w.heap.size w wr) (fun i _ => c.n - (intOf i).toNat)
  case atStart => exact ⟨0, Nat.zero_le _, rfl, fun x hx => absurd hx (Nat.not_lt_zero _), box_new _ _ _, below_box _ _⟩
  case round =>
    obtain ⟨wo, rfl⟩ : ∃ x, x = wr := ⟨_, rfl⟩
    obtain ⟨j, hj, rfl, hno, hbox, hbel⟩ := hrel
    have HNO := hide hno
    have HB := hide hbox
    obtain ⟨q0, q1, q2, q3⟩ := hbox.cells
    clear hno hbox
    by_cases hlt : j < c.n
    · have hlt' : (j : Int) < c.labels := by omega
      have hd : decide ((j : Int) < c.labels) = true := decide_eq_true hlt'
      have HD := hide (isJoin_def c a b j)
      cases h1 : c.le a j
      · go_wp2_with fail
        refine (HQ.out a j _ (by omega) (by omega) hbel).mono ?_
        rintro e w1 ⟨rfl, hb1⟩
        rw [h1]
        have HB1 := hide (HB.out.below hb1 HB.out.lt)
        obtain ⟨p0, p1, p2, p3⟩ := HB1.out.cells
        have hbel1 := hbel.trans (hb1.mono hbel.size)
        have HF := hide h1
        clear q0 q1 q2 q3 hb1 h1
        go_wp2
        refine wp_loop_rounds 1 ?_
        rw [rounds_succ]
        go_wp2
        go_roundw
        case rel =>
          refine ⟨j + 1, by omega, by go_num, fun x hx => ?_, HB1.out, hbel1⟩
          by_cases e : x = j
          · rw [e, HD.out, HF.out]; rfl
          · exact HNO.out x (by omega)
        case measure => simp [intOf]; omega
      cases h2 : c.le b j
      · go_wp2_with fail
        refine (HQ.out a j _ (by omega) (by omega) hbel).mono ?_
        rintro e w1 ⟨rfl, hb1⟩
        rw [h1]
        have HB1 := hide (HB.out.below hb1 HB.out.lt)
        obtain ⟨p0, p1, p2, p3⟩ := HB1.out.cells
        have hbel1 := hbel.trans (hb1.mono hbel.size)
        clear q0 q1 q2 q3 hb1
        go_wp2_with fail
        refine (HQ.out b j _ (by omega) (by omega) hbel1).mono ?_
        rintro e w2 ⟨rfl, hb2⟩
        rw [h2]
        have HB2 := hide (HB1.out.below hb2 HB1.out.lt)
        obtain ⟨q0, q1, q2, q3⟩ := HB2.out.cells
        have hbel2 := hbel1.trans (hb2.mono hbel1.size)
        have HF := hide h2
        clear p0 p1 p2 p3 hb2 h1 h2
        go_wp2
        refine wp_loop_rounds 1 ?_
        rw [rounds_succ]
        go_wp2
        go_roundw
        case rel =>
          refine ⟨j + 1, by omega, by go_num, fun x hx => ?_, HB2.out, hbel2⟩
          by_cases e : x = j
          · rw [e, HD.out, HF.out]; simp
          · exact HNO.out x (by omega)
        case measure => simp [intOf]; omega
      go_wp2_with fail
      refine (HQ.out a j _ (by omega) (by omega) hbel).mono ?_
      rintro e w1 ⟨rfl, hb1⟩
      rw [h1]
      have HB1 := hide (HB.out.below hb1 HB.out.lt)
      obtain ⟨p0, p1, p2, p3⟩ := HB1.out.cells
      have hbel1 := hbel.trans (hb1.mono hbel.size)
      clear q0 q1 q2 q3 hb1
      go_wp2_with fail
      refine (HQ.out b j _ (by omega) (by omega) hbel1).mono ?_
      rintro e w2 ⟨rfl, hb2⟩
      rw [h2]
      have HB2 := hide (HB1.out.below hb2 HB1.out.lt)
      obtain ⟨q0, q1, q2, q3⟩ := HB2.out.cells
      have hbel2 := hbel1.trans (hb2.mono hbel1.size)
      have HU := hide (show (c.le a j && c.le b j) = true by rw [h1, h2]; rfl)
      clear p0 p1 p2 p3 hb2 h1 h2 hbel1
      go_wp2
      go_loopw [8, 9] (fun ok kk wr => ∃ k : Nat, k ≤ c.n ∧ kk = .int .i64 k ∧ ok = .bool ((List.range k).all fun k => !((c.le a k && c.le b k) && !c.le j k)) ∧ BoxAt wr w.heap.size c v ∧ Below w.heap.size w wr) (fun _ kk _ => c.n - (intOf kk).toNat)
      case atStart => exact ⟨0, Nat.zero_le _, rfl, rfl, HB2.out, hbel2⟩
      case round =>
        obtain ⟨wi, rfl⟩ : ∃ x, x = wr := ⟨_, rfl⟩
        obtain ⟨k, hk, rfl, rfl, hbox, hbel3⟩ := hrel
        have HB3 := hide hbox
        obtain ⟨s0, s1, s2, s3⟩ := hbox.cells
        clear hbox q0 q1 q2 q3
        cases hall : (List.range k).all fun k => !((c.le a k && c.le b k) && !c.le j k)
        · have HF := hide (all_false hk hall)
          clear hall
          by_cases hkn : k < c.n
          · have hkd : (k : Int) < c.labels := by omega
            go_wp2
            go_roundw
            case rel =>
              refine ⟨j + 1, by omega, by go_num, fun x hx => ?_, HB3.out, hbel3⟩
              by_cases e : x = j
              · rw [e, HD.out, HF.out]; simp
              · exact HNO.out x (by omega)
            case measure => simp [intOf]; omega
          · have hkd : c.labels ≤ (k : Int) := by omega
            go_wp2
            go_roundw
            case rel =>
              refine ⟨j + 1, by omega, by go_num, fun x hx => ?_, HB3.out, hbel3⟩
              by_cases e : x = j
              · rw [e, HD.out, HF.out]; simp
              · exact HNO.out x (by omega)
            case measure => simp [intOf]; omega
        by_cases hkn : k < c.n
        · have hkd : (k : Int) < c.labels := by omega
          have HS := hide (all_range_succ k fun k => !((c.le a k && c.le b k) && !c.le j k))
          have HA := hide hall
          clear hall
          cases g1 : c.le a k
          · go_wp2_with fail
            refine (HQ.out a k _ (by omega) (by omega) hbel3).mono ?_
            rintro e w3 ⟨rfl, hb3⟩
            rw [g1]
            have HB4 := hide (HB3.out.below hb3 HB3.out.lt)
            have hbel4 := hbel3.trans (hb3.mono hbel3.size)
            have G1 := hide g1
            clear s0 s1 s2 s3 hb3 g1
            go_wp2
            go_roundw
            case rel => exact ⟨k + 1, by omega, by go_num, by rw [HS.out, HA.out, G1.out]; rfl, HB4.out, hbel4⟩
            case measure => simp [intOf]; omega
          cases g2 : c.le b k
          · go_wp2_with fail
            refine (HQ.out a k _ (by omega) (by omega) hbel3).mono ?_
            rintro e w3 ⟨rfl, hb3⟩
            rw [g1]
            have HB4 := hide (HB3.out.below hb3 HB3.out.lt)
            obtain ⟨p0, p1, p2, p3⟩ := HB4.out.cells
            have hbel4 := hbel3.trans (hb3.mono hbel3.size)
            clear s0 s1 s2 s3 hb3
            go_wp2_with fail
            refine (HQ.out b k _ (by omega) (by omega) hbel4).mono ?_
            rintro e w4 ⟨rfl, hb4⟩
            rw [g2]
            have HB5 := hide (HB4.out.below hb4 HB4.out.lt)
            have hbel5 := hbel4.trans (hb4.mono hbel4.size)
            have G2 := hide g2
            clear p0 p1 p2 p3 hb4 g1 g2
            go_wp2
            go_roundw
            case rel => exact ⟨k + 1, by omega, by go_num, by rw [HS.out, HA.out, G2.out]; simp, HB5.out, hbel5⟩
            case measure => simp [intOf]; omega
          go_wp2_with fail
          refine (HQ.out a k _ (by omega) (by omega) hbel3).mono ?_
          rintro e w3 ⟨rfl, hb3⟩
          rw [g1]
          have HB4 := hide (HB3.out.below hb3 HB3.out.lt)
          obtain ⟨p0, p1, p2, p3⟩ := HB4.out.cells
          have hbel4 := hbel3.trans (hb3.mono hbel3.size)
          clear s0 s1 s2 s3 hb3
          go_wp2_with fail
          refine (HQ.out b k _ (by omega) (by omega) hbel4).mono ?_
          rintro e w4 ⟨rfl, hb4⟩
          rw [g2]
          have HB5 := hide (HB4.out.below hb4 HB4.out.lt)
          obtain ⟨s0, s1, s2, s3⟩ := HB5.out.cells
          have hbel5 := hbel4.trans (hb4.mono hbel4.size)
          clear p0 p1 p2 p3 hb4
          go_wp2_with fail
          refine (HQ.out j k _ (by omega) (by omega) hbel5).mono ?_
          rintro e w5 ⟨rfl, hb5⟩
          have HB6 := hide (HB5.out.below hb5 HB5.out.lt)
          have hbel6 := hbel5.trans (hb5.mono hbel5.size)
          have G12 := hide (show (c.le a k && c.le b k) = true by rw [g1, g2]; rfl)
          clear s0 s1 s2 s3 hb5 g1 g2
          cases g3 : c.le j k
          · have G3 := hide g3
            clear g3
            go_wp2
            go_roundw
            case rel => exact ⟨k + 1, by omega, by go_num, by rw [HS.out, HA.out, G12.out, G3.out]; rfl, HB6.out, hbel6⟩
            case measure => simp [intOf]; omega
          · have G3 := hide g3
            clear g3
            go_wp2
            go_roundw
            case rel => exact ⟨k + 1, by omega, by go_num, by rw [HS.out, HA.out, G12.out, G3.out]; rfl, HB6.out, hbel6⟩
            case measure => simp [intOf]; omega
        · have hkd : c.labels ≤ (k : Int) := by omega
          have hkn' : k = c.n := by omega
          have HA := hide (show c.isJoin a b j = true by rw [HD.out, HU.out, ← hkn', hall]; rfl)
          clear hall hkn'
          go_wp2
          go_ret
          exact ⟨ret_int' (firstN_yes hlt HA.out HNO.out).symm, hbel3⟩
    · have hge : c.labels ≤ (j : Int) := by omega
      go_wp2
      go_ret
      exact ⟨ret_int' (firstN_no fun i hi => HNO.out i (by omega)).symm, hbel⟩

theorem isMeet_def (c : Cfg) (a b j : Nat) : c.isMeet a b j = ((c.le j a && c.le j b) && (List.range c.n).all fun k => !((c.le k a && c.le k b) && !c.le k j)) := rfl
set_option maxRecDepth 100000 in
set_option maxHeartbeats 8000000 in
theorem rmeet_any (c : Cfg) (v : CfgV) (a b : Nat) (w : World) (hl : labelsB c = true) (hat : CfgAt w c v) (ha : a < c.n) (hb : b < c.n) :
    Calls Tryz.prog 59 #[.agg (cfgCells c v), .int .i64 a, .int .i64 b] w fun e w' => e = .returned (.int .i64 (c.meet a b)) ∧ Below w.heap.size w w' := by
  obtain ⟨_, _, _, _, hn, hn6, hn1⟩ := labels_of hl
  have hle1 : (c.n : Int) ≤ c.labels := by omega
  have hle2 : c.labels ≤ (c.n : Int) := by omega
  have HL := hide hl
  have HAT := hide hat
  clear hl hat hn
  have hleq : ∀ (x y : Nat) (w' : World), x < c.n → y < c.n → Below w.heap.size w w' → Calls Tryz.prog 57 #[.agg (cfgCells c v), .int .i64 x, .int .i64 y] w' fun e w'' => e = .returned (.bool (c.le x y)) ∧ Below w'.heap.size w' w'' :=
    fun x y w' hx hy hb => rleq_any c v x y w' HL.out (HAT.out.below hb) hx hy
  have HQ := hide hleq
  clear hleq
  unfold cfgCells at *
  go_enter Tryz.func59, Tryz.ntmps59
  go_wp2
  go_loopw [7] (fun i wr => ∃ j : Nat, j ≤ c.n ∧ i = .int .i64 j ∧ (∀ x, x < j → c.isMeet a b x = false) ∧ BoxAt wr w.heap.size c v ∧ Below w.heap.size w wr) (fun i _ => c.n - (intOf i).toNat)
  case atStart => exact ⟨0, Nat.zero_le _, rfl, fun x hx => absurd hx (Nat.not_lt_zero _), box_new _ _ _, below_box _ _⟩
  case round =>
    obtain ⟨wo, rfl⟩ : ∃ x, x = wr := ⟨_, rfl⟩
    obtain ⟨j, hj, rfl, hno, hbox, hbel⟩ := hrel
    have HNO := hide hno
    have HB := hide hbox
    obtain ⟨q0, q1, q2, q3⟩ := hbox.cells
    clear hno hbox
    by_cases hlt : j < c.n
    · have hlt' : (j : Int) < c.labels := by omega
      have hd : decide ((j : Int) < c.labels) = true := decide_eq_true hlt'
      have HD := hide (isMeet_def c a b j)
      cases h1 : c.le j a
      · go_wp2_with fail
        refine (HQ.out j a _ (by omega) (by omega) hbel).mono ?_
        rintro e w1 ⟨rfl, hb1⟩
        rw [h1]
        have HB1 := hide (HB.out.below hb1 HB.out.lt)
        obtain ⟨p0, p1, p2, p3⟩ := HB1.out.cells
        have hbel1 := hbel.trans (hb1.mono hbel.size)
        have HF := hide h1
        clear q0 q1 q2 q3 hb1 h1
        go_wp2
        refine wp_loop_rounds 1 ?_
        rw [rounds_succ]
        go_wp2
        go_roundw
        case rel =>
          refine ⟨j + 1, by omega, by go_num, fun x hx => ?_, HB1.out, hbel1⟩
          by_cases e : x = j
          · rw [e, HD.out, HF.out]; rfl
          · exact HNO.out x (by omega)
        case measure => simp [intOf]; omega
      cases h2 : c.le j b
      · go_wp2_with fail
        refine (HQ.out j a _ (by omega) (by omega) hbel).mono ?_
        rintro e w1 ⟨rfl, hb1⟩
        rw [h1]
        have HB1 := hide (HB.out.below hb1 HB.out.lt)
        obtain ⟨p0, p1, p2, p3⟩ := HB1.out.cells
        have hbel1 := hbel.trans (hb1.mono hbel.size)
        clear q0 q1 q2 q3 hb1
        go_wp2_with fail
        refine (HQ.out j b _ (by omega) (by omega) hbel1).mono ?_
        rintro e w2 ⟨rfl, hb2⟩
        rw [h2]
        have HB2 := hide (HB1.out.below hb2 HB1.out.lt)
        obtain ⟨q0, q1, q2, q3⟩ := HB2.out.cells
        have hbel2 := hbel1.trans (hb2.mono hbel1.size)
        have HF := hide h2
        clear p0 p1 p2 p3 hb2 h1 h2
        go_wp2
        refine wp_loop_rounds 1 ?_
        rw [rounds_succ]
        go_wp2
        go_roundw
        case rel =>
          refine ⟨j + 1, by omega, by go_num, fun x hx => ?_, HB2.out, hbel2⟩
          by_cases e : x = j
          · rw [e, HD.out, HF.out]; simp
          · exact HNO.out x (by omega)
        case measure => simp [intOf]; omega
      go_wp2_with fail
      refine (HQ.out j a _ (by omega) (by omega) hbel).mono ?_
      rintro e w1 ⟨rfl, hb1⟩
      rw [h1]
      have HB1 := hide (HB.out.below hb1 HB.out.lt)
      obtain ⟨p0, p1, p2, p3⟩ := HB1.out.cells
      have hbel1 := hbel.trans (hb1.mono hbel.size)
      clear q0 q1 q2 q3 hb1
      go_wp2_with fail
      refine (HQ.out j b _ (by omega) (by omega) hbel1).mono ?_
      rintro e w2 ⟨rfl, hb2⟩
      rw [h2]
      have HB2 := hide (HB1.out.below hb2 HB1.out.lt)
      obtain ⟨q0, q1, q2, q3⟩ := HB2.out.cells
      have hbel2 := hbel1.trans (hb2.mono hbel1.size)
      have HU := hide (show (c.le j a && c.le j b) = true by rw [h1, h2]; rfl)
      clear p0 p1 p2 p3 hb2 h1 h2 hbel1
      go_wp2
      go_loopw [8, 9] (fun ok kk wr => ∃ k : Nat, k ≤ c.n ∧ kk = .int .i64 k ∧ ok = .bool ((List.range k).all fun k => !((c.le k a && c.le k b) && !c.le k j)) ∧ BoxAt wr w.heap.size c v ∧ Below w.heap.size w wr) (fun _ kk _ => c.n - (intOf kk).toNat)
      case atStart => exact ⟨0, Nat.zero_le _, rfl, rfl, HB2.out, hbel2⟩
      case round =>
        obtain ⟨wi, rfl⟩ : ∃ x, x = wr := ⟨_, rfl⟩
        obtain ⟨k, hk, rfl, rfl, hbox, hbel3⟩ := hrel
        have HB3 := hide hbox
        obtain ⟨s0, s1, s2, s3⟩ := hbox.cells
        clear hbox q0 q1 q2 q3
        cases hall : (List.range k).all fun k => !((c.le k a && c.le k b) && !c.le k j)
        · have HF := hide (all_false hk hall)
          clear hall
          by_cases hkn : k < c.n
          · have hkd : (k : Int) < c.labels := by omega
            go_wp2
            go_roundw
            case rel =>
              refine ⟨j + 1, by omega, by go_num, fun x hx => ?_, HB3.out, hbel3⟩
              by_cases e : x = j
              · rw [e, HD.out, HF.out]; simp
              · exact HNO.out x (by omega)
            case measure => simp [intOf]; omega
          · have hkd : c.labels ≤ (k : Int) := by omega
            go_wp2
            go_roundw
            case rel =>
              refine ⟨j + 1, by omega, by go_num, fun x hx => ?_, HB3.out, hbel3⟩
              by_cases e : x = j
              · rw [e, HD.out, HF.out]; simp
              · exact HNO.out x (by omega)
            case measure => simp [intOf]; omega
        by_cases hkn : k < c.n
        · have hkd : (k : Int) < c.labels := by omega
          have HS := hide (all_range_succ k fun k => !((c.le k a && c.le k b) && !c.le k j))
          have HA := hide hall
          clear hall
          cases g1 : c.le k a
          · go_wp2_with fail
            refine (HQ.out k a _ (by omega) (by omega) hbel3).mono ?_
            rintro e w3 ⟨rfl, hb3⟩
            rw [g1]
            have HB4 := hide (HB3.out.below hb3 HB3.out.lt)
            have hbel4 := hbel3.trans (hb3.mono hbel3.size)
            have G1 := hide g1
            clear s0 s1 s2 s3 hb3 g1
            go_wp2
            go_roundw
            case rel => exact ⟨k + 1, by omega, by go_num, by rw [HS.out, HA.out, G1.out]; rfl, HB4.out, hbel4⟩
            case measure => simp [intOf]; omega
          cases g2 : c.le k b
          · go_wp2_with fail
            refine (HQ.out k a _ (by omega) (by omega) hbel3).mono ?_
            rintro e w3 ⟨rfl, hb3⟩
            rw [g1]
            have HB4 := hide (HB3.out.below hb3 HB3.out.lt)
            obtain ⟨p0, p1, p2, p3⟩ := HB4.out.cells
            have hbel4 := hbel3.trans (hb3.mono hbel3.size)
            clear s0 s1 s2 s3 hb3
            go_wp2_with fail
            refine (HQ.out k b _ (by omega) (by omega) hbel4).mono ?_
            rintro e w4 ⟨rfl, hb4⟩
            rw [g2]
            have HB5 := hide (HB4.out.below hb4 HB4.out.lt)
            have hbel5 := hbel4.trans (hb4.mono hbel4.size)
            have G2 := hide g2
            clear p0 p1 p2 p3 hb4 g1 g2
            go_wp2
            go_roundw
            case rel => exact ⟨k + 1, by omega, by go_num, by rw [HS.out, HA.out, G2.out]; simp, HB5.out, hbel5⟩
            case measure => simp [intOf]; omega
          go_wp2_with fail
          refine (HQ.out k a _ (by omega) (by omega) hbel3).mono ?_
          rintro e w3 ⟨rfl, hb3⟩
          rw [g1]
          have HB4 := hide (HB3.out.below hb3 HB3.out.lt)
          obtain ⟨p0, p1, p2, p3⟩ := HB4.out.cells
          have hbel4 := hbel3.trans (hb3.mono hbel3.size)
          clear s0 s1 s2 s3 hb3
          go_wp2_with fail
          refine (HQ.out k b _ (by omega) (by omega) hbel4).mono ?_
          rintro e w4 ⟨rfl, hb4⟩
          rw [g2]
          have HB5 := hide (HB4.out.below hb4 HB4.out.lt)
          obtain ⟨s0, s1, s2, s3⟩ := HB5.out.cells
          have hbel5 := hbel4.trans (hb4.mono hbel4.size)
          clear p0 p1 p2 p3 hb4
          go_wp2_with fail
          refine (HQ.out k j _ (by omega) (by omega) hbel5).mono ?_
          rintro e w5 ⟨rfl, hb5⟩
          have HB6 := hide (HB5.out.below hb5 HB5.out.lt)
          have hbel6 := hbel5.trans (hb5.mono hbel5.size)
          have G12 := hide (show (c.le k a && c.le k b) = true by rw [g1, g2]; rfl)
          clear s0 s1 s2 s3 hb5 g1 g2
          cases g3 : c.le k j
          · have G3 := hide g3
            clear g3
            go_wp2
            go_roundw
            case rel => exact ⟨k + 1, by omega, by go_num, by rw [HS.out, HA.out, G12.out, G3.out]; rfl, HB6.out, hbel6⟩
            case measure => simp [intOf]; omega
          · have G3 := hide g3
            clear g3
            go_wp2
            go_roundw
            case rel => exact ⟨k + 1, by omega, by go_num, by rw [HS.out, HA.out, G12.out, G3.out]; rfl, HB6.out, hbel6⟩
            case measure => simp [intOf]; omega
        · have hkd : c.labels ≤ (k : Int) := by omega
          have hkn' : k = c.n := by omega
          have HA := hide (show c.isMeet a b j = true by rw [HD.out, HU.out, ← hkn', hall]; rfl)
          clear hall hkn'
          go_wp2
          go_ret
          exact ⟨ret_int' (firstN_yes hlt HA.out HNO.out).symm, hbel3⟩
    · have hge : c.labels ≤ (j : Int) := by omega
      go_wp2
      go_ret
      exact ⟨ret_int' (firstN_no fun i hi => HNO.out i (by omega)).symm, hbel⟩
end Go.Proofs.YthgcpjdlcooncaaGreat
namespace Go.Proofs.YthgcpjdlcooncaaGreat
open Go.RowKit Veil
/-- One thing of a list, later. -/
theorem SeqAt.at {α : Type} {x y : α → Value} {w w' : World} {ao : Option Addr} {l : List α} (h : SeqAt x y w ao l) (hb : Below w.heap.size w w') {i : Nat} {p : α} (hi : l[i]? = some p) :
    ∃ b off, ao = some ⟨b, off, none⟩ ∧ b < w.heap.size ∧ w'.cell? ⟨b, off + i * 2, none⟩ = some (x p) ∧ w'.cell? ⟨b, off + i * 2 + 1, none⟩ = some (y p) := by
  rcases h with rfl | ⟨b, off, h1, h2, h3⟩
  · simp at hi
  · exact ⟨b, off, h1, h2, (hb.cell (p := ⟨b, off + i * 2, none⟩) h2).trans (h3 i p hi).1, (hb.cell (p := ⟨b, off + i * 2 + 1, none⟩) h2).trans (h3 i p hi).2⟩
theorem all_take_succ {α : Type} (l : List α) (f : α → Bool) (k : Nat) (p : α) (h : l[k]? = some p) : (l.take (k + 1)).all f = ((l.take k).all f && f p) := by
  rw [List.take_add_one, h]; simp
theorem all_false_of {α : Type} (l : List α) (f : α → Bool) (k : Nat) (p : α) (h : l[k]? = some p) (hf : f p = false) : l.all f = false := by
  rw [List.all_eq_false]; exact ⟨p, List.mem_of_getElem? h, by simp [hf]⟩

set_option maxRecDepth 100000 in
set_option maxHeartbeats 4000000 in
theorem rlabels_any (c : Cfg) (v : CfgV) (w : World) (hok : CfgOk c) (hat : CfgAt w c v) :
    Calls Tryz.prog 56 #[.agg (cfgCells c v)] w fun e w' => e = .returned (.bool (labelsB c)) ∧ Below w.heap.size w w' := by
  have k1 := hok.edges
  have HE := hide hat.edges
  have HD := hide (show labelsB c = (decide (1 ≤ c.labels) && decide (c.labels ≤ 6) && decide (c.edges.length ≤ 30) && c.edges.all (edgeOk c.labels)) from rfl)
  have hlab : ∀ (a : Int) (w' : World), Calls Tryz.prog 96 #[.agg (cfgCells c v), .int .i64 a] w' fun e w'' => e = .returned (.bool (okL c.labels a)) ∧ Below w'.heap.size w' w'' := fun a w' => rlabel_any c v a w'
  have HQ := hide hlab
  clear hat hok hlab
  unfold cfgCells at *
  by_cases h1 : c.labels < 1
  · go_enter Tryz.func56, Tryz.ntmps56
    go_wp2
    go_ret
    exact ⟨ret_bool (by rw [HD.out]; simp; omega), below_box _ _⟩
  by_cases h2 : 6 < c.labels
  · go_enter Tryz.func56, Tryz.ntmps56
    go_wp2
    go_ret
    exact ⟨ret_bool (by rw [HD.out]; simp; omega), below_box _ _⟩
  by_cases h3 : 30 < c.edges.length
  · have h3' : (30 : Int) < (c.edges.length : Int) := by omega
    go_enter Tryz.func56, Tryz.ntmps56
    go_wp2
    go_ret
    exact ⟨ret_bool (by rw [HD.out]; simp; omega), below_box _ _⟩
  have HR := hide (show labelsB c = c.edges.all (edgeOk c.labels) by rw [HD.out]; simp [show 1 ≤ c.labels by omega, show c.labels ≤ 6 by omega, show c.edges.length ≤ 30 by omega])
  clear HD
  go_enter Tryz.func56, Tryz.ntmps56
  go_wp2
  go_loopw [3] (fun i wr => ∃ k : Nat, k ≤ c.edges.length ∧ i = .int .i64 k ∧ (c.edges.take k).all (edgeOk c.labels) = true ∧ BoxAt wr w.heap.size c v ∧ Below w.heap.size w wr) (fun i _ => c.edges.length - (intOf i).toNat)
  case atStart => exact ⟨0, Nat.zero_le _, rfl, by simp, box_new _ _ _, below_box _ _⟩
  case round =>
    obtain ⟨k, hk, rfl, hall, hbox, hbel⟩ := hrel
    have HA := hide hall
    have HB := hide hbox
    obtain ⟨q0, q1, q2, q3⟩ := hbox.cells
    have hwl := hbox.lt
    clear hall hbox
    by_cases hlt : k < c.edges.length
    · have hek : c.edges[k]? = some c.edges[k] := List.getElem?_eq_getElem hlt
      obtain ⟨b, off, hao, hbl, d1, d2⟩ := HE.out.at hbel hek
      rw [hao] at q1
      have HS := hide (all_take_succ c.edges (edgeOk c.labels) k _ hek)
      have HF := hide (all_false_of c.edges (edgeOk c.labels) k _ hek)
      have HO := hide hao
      generalize c.edges[k] = e at *
      obtain ⟨e1, e2⟩ := e
      simp only [xE, yE] at d1 d2
      have hbl2 : b < wr.heap.size := Nat.lt_of_lt_of_le hbl hbel.size
      have HOK := hide (show edgeOk c.labels (e1, e2) = (okL c.labels e1 && okL c.labels e2 && !(e1 == e2)) from rfl)
      clear hek hao
      go_wp2_with fail
      rw [← HO.out]
      refine (HQ.out e1 _).mono ?_
      rintro e w1 ⟨rfl, hb1⟩
      have hsz1 : wr.heap.size < w1.heap.size := by have := hb1.size; simp at this; omega
      have m1 : w1.cell? ⟨wr.heap.size, 0, none⟩ = some (.int .i64 e1) := by rw [hb1.cell (p := ⟨wr.heap.size, 0, none⟩) (by simp)]; simp
      have m2 : w1.cell? ⟨wr.heap.size, 1, none⟩ = some (.int .i64 e2) := by rw [hb1.cell (p := ⟨wr.heap.size, 1, none⟩) (by simp)]; simp
      have hbb1 : Below wr.heap.size wr w1 := (below_box _ _).trans (hb1.mono (by simp))
      have HB1 := hide (HB.out.below hbb1 HB.out.lt)
      have hbel1 := hbel.trans (hbb1.mono hbel.size)
      obtain ⟨p0, p1, p2, p3⟩ := HB1.out.cells
      clear q0 q1 q2 q3 d1 d2 hb1 hbb1
      cases g1 : okL c.labels e1
      · have G1 := hide g1
        clear g1
        go_wp2
        go_ret
        exact ⟨ret_bool (by rw [HR.out, HF.out (by rw [HOK.out, G1.out]; rfl)]), hbel1⟩
      go_wp2_with fail
      refine (HQ.out e2 _).mono ?_
      rintro e w2 ⟨rfl, hb2⟩
      have hsz2 : wr.heap.size < w2.heap.size := by have := hb2.size; omega
      have m1' : w2.cell? ⟨wr.heap.size, 0, none⟩ = some (.int .i64 e1) := by rw [hb2.cell (p := ⟨wr.heap.size, 0, none⟩) hsz1]; exact m1
      have m2' : w2.cell? ⟨wr.heap.size, 1, none⟩ = some (.int .i64 e2) := by rw [hb2.cell (p := ⟨wr.heap.size, 1, none⟩) hsz1]; exact m2
      have HB2 := hide (HB1.out.below hb2 HB1.out.lt)
      have hbel2 := hbel1.trans (hb2.mono hbel1.size)
      clear p0 p1 p2 p3 m1 m2 hb2 hsz1
      have G1 := hide g1
      clear g1
      cases g2 : okL c.labels e2
      · have G2 := hide g2
        clear g2
        go_wp2
        go_ret
        exact ⟨ret_bool (by rw [HR.out, HF.out (by rw [HOK.out, G2.out]; simp)]), hbel2⟩
      have G2 := hide g2
      clear g2
      by_cases he : e1 = e2
      · have heb : (e1 == e2) = true := by simpa using he
        have EB := hide heb
        clear he
        go_wp2
        go_ret
        exact ⟨ret_bool (by rw [HR.out, HF.out (by rw [HOK.out, EB.out]; simp)]), hbel2⟩
      · have heb : (e1 == e2) = false := by simpa using he
        have EB := hide heb
        clear he
        go_wp2
        go_roundw
        case rel => exact ⟨k + 1, by omega, by go_num, by rw [HS.out, HA.out, HOK.out, G1.out, G2.out, EB.out]; rfl, HB2.out, hbel2⟩
        case measure => simp [intOf]; omega
    · have hke : k = c.edges.length := by omega
      have HT := hide (show c.edges.all (edgeOk c.labels) = true by have := HA.out; rwa [hke, List.take_length] at this)
      go_wp2
      go_ret
      exact ⟨ret_bool (by rw [HR.out, HT.out]), hbel⟩
end Go.Proofs.YthgcpjdlcooncaaGreat
