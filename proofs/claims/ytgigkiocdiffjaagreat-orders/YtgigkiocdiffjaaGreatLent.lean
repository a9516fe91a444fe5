/- lent: a configuration with lists of the caller's own. -/
import Derived.Test.YtgigkiocdiffjaaGreatCfg
import Derived.Test.YtgigkiocdiffjaaGreatCuts
import Derived.WalkSpells
import Derived.Outline
namespace Go.Proofs.YtgigkiocdiffjaaGreat
open Go.RowKit Veil
theorem Tryz.sizeEdge : (Tryz.prog.info? 169).map (·.size) = some 2 := by kernel_rfl
theorem Tryz.sizeRule : (Tryz.prog.info? 163).map (·.size) = some 2 := by kernel_rfl
theorem Tryz.sizeGrant : (Tryz.prog.info? 166).map (·.size) = some 2 := by kernel_rfl
def beyondR : ByteArray × Int := (⟨#[98, 101, 121, 111, 110, 100]⟩, 77)
/-- What was lent: three rows of the caller's own. -/
structure LentAt (w : World) (c : Cfg) (g1 g2 g3 : Nat) : Prop where
  edges : RowAt xE yE w g1 169 (c.edges ++ pad 8 (77, 77))
  rules : RowAt xR yR w g2 163 (c.rules ++ pad 8 beyondR)
  grants : RowAt xE yE w g3 166 (c.grants ++ pad 8 (77, 77))
def lentV (c : Cfg) (v : CfgV) (g1 g2 g3 : Nat) : CfgV :=
  { ea := v.ea.map fun _ => ⟨g1, 0, none⟩, ec := if v.ea.isSome then c.edges.length + 8 else 0,
    ra := v.ra.map fun _ => ⟨g2, 0, none⟩, rc := if v.ra.isSome then c.rules.length + 8 else 0,
    ga := v.ga.map fun _ => ⟨g3, 0, none⟩, gc := if v.ga.isSome then c.grants.length + 8 else 0 }
theorem LentAt.below {w w' : World} {c : Cfg} {g1 g2 g3 B : Nat} (h : LentAt w c g1 g2 g3) (hb : Below B w w') (h1 : g1 < B) (h2 : g2 < B) (h3 : g3 < B) : LentAt w' c g1 g2 g3 :=
  ⟨h.edges.below hb h1, h.rules.below hb h2, h.grants.below hb h3⟩
theorem LentAt.cfg {w : World} {c : Cfg} {g1 g2 g3 : Nat} {v : CfgV} (h : LentAt w c g1 g2 g3) (hn : CfgNil c v) : CfgAt w c (lentV c v g1 g2 g3) := by
  refine ⟨?_, ?_, ?_⟩
  · cases hv : v.ea with
    | none => exact Or.inl (List.eq_nil_of_length_eq_zero (hn.edges hv).1)
    | some a => simpa [lentV, hv] using h.edges.seq
  · cases hv : v.ra with
    | none => exact Or.inl (List.eq_nil_of_length_eq_zero (hn.rules hv).1)
    | some a => simpa [lentV, hv] using h.rules.seq
  · cases hv : v.ga with
    | none => exact Or.inl (List.eq_nil_of_length_eq_zero (hn.grants hv).1)
    | some a => simpa [lentV, hv] using h.grants.seq
theorem lent_nil {c : Cfg} {v : CfgV} {g1 g2 g3 : Nat} (hn : CfgNil c v) : CfgNil c (lentV c v g1 g2 g3) := by
  refine ⟨fun h => ?_, fun h => ?_, fun h => ?_⟩
  · cases hv : v.ea with
    | none => exact ⟨(hn.edges hv).1, by simp [lentV, hv]⟩
    | some a => simp [lentV, hv] at h
  · cases hv : v.ra with
    | none => exact ⟨(hn.rules hv).1, by simp [lentV, hv]⟩
    | some a => simp [lentV, hv] at h
  · cases hv : v.ga with
    | none => exact ⟨(hn.grants hv).1, by simp [lentV, hv]⟩
    | some a => simp [lentV, hv] at h

/-- While the spare room is written. -/
structure LentMid (w : World) (B : Nat) (c : Cfg) (v : CfgV) (k : Nat) : Prop where
  cfg : w.heap[B]? = some (.cells (cfgCells c v) 31 (0, 0))
  res : w.heap[B + 1]? = some (.cells #[.int .i64 0, .slice none 0 0, .slice none 0 0, .slice none 0 0] 31 (0, 0))
  edges : RowAt xE yE w (B + 2) 169 (c.edges ++ (pad k (77, 77) ++ pad (8 - k) (0, 0)))
  rules : RowAt xR yR w (B + 3) 163 (c.rules ++ (pad k beyondR ++ pad (8 - k) (ByteArray.empty, 0)))
  grants : RowAt xE yE w (B + 4) 166 (c.grants ++ (pad k (77, 77) ++ pad (8 - k) (0, 0)))
theorem pad_get {α : Type} (l : List α) (k : Nat) (a z : α) (h : k < 8) : (l ++ (pad k a ++ pad (8 - k) z))[l.length + k]? = some z := by
  rw [List.getElem?_append_right (by omega), List.getElem?_append_right (by rw [pad_length]; omega), pad_length, show l.length + k - l.length - k = 0 by omega]
  unfold pad
  rw [List.getElem?_replicate, if_pos (by omega)]
theorem pad_set {α : Type} (l : List α) (k : Nat) (a z : α) (h : k < 8) : (l ++ (pad k a ++ pad (8 - k) z)).set (l.length + k) a = l ++ (pad (k + 1) a ++ pad (8 - (k + 1)) z) := by
  rw [List.set_append_right _ _ (by omega), List.set_append_right _ _ (by rw [pad_length]; omega), pad_length]
  have e1 : l.length + k - l.length - k = 0 := by omega
  rw [e1]
  unfold pad
  have e2 : 8 - k = (8 - (k + 1)) + 1 := by omega
  rw [e2, List.replicate_succ, List.set_cons_zero, List.replicate_succ' (n := k)]
  simp
theorem pad_length_all {α : Type} (l : List α) (k : Nat) (a z : α) (h : k < 8) : l.length + k < (l ++ (pad k a ++ pad (8 - k) z)).length := by
  simp [pad_length]; omega
theorem other2 {w : World} {g k i j : Nat} {a b : Value} {o : Obj} (h : w.heap[k]? = some o) (hk : k ≠ g) : ((w.setCell ⟨g, i, none⟩ a).setCell ⟨g, j, none⟩ b).heap[k]? = some o := by
  rw [heap_setCell_other _ _ _ _ hk, heap_setCell_other _ _ _ _ hk]; exact h
/-- What one round writes. -/
def lentRound (w : World) (B : Nat) (c : Cfg) (k : Nat) : World :=
  (((((w.setCell ⟨B + 2, (c.edges.length + k) * 2, none⟩ (.int .i64 77)).setCell ⟨B + 2, (c.edges.length + k) * 2 + 1, none⟩ (.int .i64 77)).setCell ⟨B + 3, (c.rules.length + k) * 2, none⟩ (.string ⟨#[98, 101, 121, 111, 110, 100]⟩)).setCell ⟨B + 3, (c.rules.length + k) * 2 + 1, none⟩ (.int .i64 77)).setCell ⟨B + 4, (c.grants.length + k) * 2, none⟩ (.int .i64 77)).setCell ⟨B + 4, (c.grants.length + k) * 2 + 1, none⟩ (.int .i64 77)
theorem LentMid.round {w : World} {B : Nat} {c : Cfg} {v : CfgV} {k : Nat} (h : LentMid w B c v k) (hk : k < 8) : LentMid (lentRound w B c k) B c v (k + 1) := by
  unfold lentRound
  refine ⟨?_, ?_, ?_, ?_, ?_⟩
  · exact other2 (other2 (other2 h.cfg (by omega)) (by omega)) (by omega)
  · exact other2 (other2 (other2 h.res (by omega)) (by omega)) (by omega)
  · have := h.edges.store (i := c.edges.length + k) (77, 77) (pad_length_all _ _ _ _ hk)
    rw [pad_set _ _ _ _ hk] at this
    exact other2 (other2 this (by omega)) (by omega)
  · have h1 : RowAt xR yR ((w.setCell ⟨B + 2, (c.edges.length + k) * 2, none⟩ (.int .i64 77)).setCell ⟨B + 2, (c.edges.length + k) * 2 + 1, none⟩ (.int .i64 77)) (B + 3) 163 (c.rules ++ (pad k beyondR ++ pad (8 - k) (ByteArray.empty, 0))) := other2 h.rules (by omega)
    have := h1.store (i := c.rules.length + k) beyondR (pad_length_all _ _ _ _ hk)
    rw [pad_set _ _ _ _ hk] at this
    exact other2 this (by omega)
  · have h1 : RowAt xE yE ((((w.setCell ⟨B + 2, (c.edges.length + k) * 2, none⟩ (.int .i64 77)).setCell ⟨B + 2, (c.edges.length + k) * 2 + 1, none⟩ (.int .i64 77)).setCell ⟨B + 3, (c.rules.length + k) * 2, none⟩ (.string ⟨#[98, 101, 121, 111, 110, 100]⟩)).setCell ⟨B + 3, (c.rules.length + k) * 2 + 1, none⟩ (.int .i64 77)) (B + 4) 166 (c.grants ++ (pad k (77, 77) ++ pad (8 - k) (0, 0))) := other2 (other2 h.grants (by omega)) (by omega)
    have := h1.store (i := c.grants.length + k) (77, 77) (pad_length_all _ _ _ _ hk)
    rw [pad_set _ _ _ _ hk] at this
    exact this
theorem lentRound_below {w0 w : World} {B : Nat} (c : Cfg) (k : Nat) (h : Below B w0 w) : Below B w0 (lentRound w B c k) :=
  (((((h.setCell (by dsimp only; omega) _).setCell (by dsimp only; omega) _).setCell (by dsimp only; omega) _).setCell (by dsimp only; omega) _).setCell (by dsimp only; omega) _).setCell (by dsimp only; omega) _

theorem pad_done {α : Type} (l : List α) (a z : α) : l ++ (pad 8 a ++ pad (8 - 8) z) = l ++ pad 8 a := by simp [pad]
theorem LentMid.done {w : World} {B : Nat} {c : Cfg} {v : CfgV} (h : LentMid w B c v 8) : LentAt w c (B + 2) (B + 3) (B + 4) := by
  have h1 := h.edges
  have h2 := h.rules
  have h3 := h.grants
  rw [pad_done] at h1 h2 h3
  exact ⟨h1, h2, h3⟩
theorem LentAt.other {w : World} {c : Cfg} {g1 g2 g3 g j : Nat} {x : Value} (h : LentAt w c g1 g2 g3) (k1 : g1 ≠ g) (k2 : g2 ≠ g) (k3 : g3 ≠ g) : LentAt (w.setCell ⟨g, j, none⟩ x) c g1 g2 g3 :=
  ⟨row_other h.edges k1, row_other h.rules k2, row_other h.grants k3⟩
def ifV (a : Option Addr) (b : Addr) (n m c : Nat) : Value := if a.isSome = true then .slice (some b) n m else .slice a n c
theorem ifV_eq {a : Option Addr} {n c m : Nat} {b : Addr} (h0 : a = none → n = 0 ∧ c = 0) : ifV a b n m c = .slice (a.map fun _ => b) n (if a.isSome then m else 0) := by
  unfold ifV
  cases a with
  | none => simp [(h0 rfl).2]
  | some a => simp
theorem ret_cfg {L : Int} {x1 x2 x3 y1 y2 y3 : Value} (h1 : x1 = y1) (h2 : x2 = y2) (h3 : x3 = y3) : Ending.returned (.agg #[.int .i64 L, x1, x2, x3]) = .returned (.agg #[.int .i64 L, y1, y2, y3]) := by rw [h1, h2, h3]
set_option maxRecDepth 100000 in
set_option maxHeartbeats 4000000 in
theorem lent_any (c : Cfg) (v : CfgV) (w : World) (hok : CfgOk c) (hat : CfgAt w c v) (hnil : CfgNil c v) :
    Calls Tryz.prog 80 #[.agg (cfgCells c v)] w fun e w' => ∃ g1 g2 g3, e = .returned (.agg (cfgCells c (lentV c v g1 g2 g3))) ∧ LentAt w' c g1 g2 g3 ∧ w.heap.size ≤ g1 ∧ g1 < g2 ∧ g2 < g3 ∧ Below w.heap.size w w' := by
  obtain ⟨L, E, R, G⟩ := c
  obtain ⟨ea, ec, ra, rc, ga, gc⟩ := v
  obtain ⟨k1, k2, k3, k4⟩ := hok
  obtain ⟨a1, a2, a3⟩ := hat
  simp only at k1 k2 k3 k4 a1 a2 a3
  have A1 := hide a1
  have A2 := hide a2
  have A3 := hide a3
  have HN := hide hnil
  clear a1 a2 a3 hnil k4
  have m1 : ∀ w, (Instr.makeSlice 27 (.int .i64 ((E.length : Int) + 8)) (.int .i64 ((E.length : Int) + 8))).run Tryz.prog w = .ok (.slice (some ⟨w.heap.size, 0, none⟩) (E.length + 8) (E.length + 8)) (w.alloc (.cells (two xE yE (List.replicate (E.length + 8) (0, 0))).toArray 169)) := fun w => run_make_two xE yE (0, 0) 27 169 16 Tryz.underlying27 Tryz.infoEdge (E.length + 8) (by omega) (by omega) w
  have m2 : ∀ w, (Instr.makeSlice 28 (.int .i64 ((R.length : Int) + 8)) (.int .i64 ((R.length : Int) + 8))).run Tryz.prog w = .ok (.slice (some ⟨w.heap.size, 0, none⟩) (R.length + 8) (R.length + 8)) (w.alloc (.cells (two xR yR (List.replicate (R.length + 8) (ByteArray.empty, 0))).toArray 163)) := fun w => run_make_two xR yR (ByteArray.empty, 0) 28 163 24 Tryz.underlying28 Tryz.infoRule (R.length + 8) (by omega) (by omega) w
  have m3 : ∀ w, (Instr.makeSlice 29 (.int .i64 ((G.length : Int) + 8)) (.int .i64 ((G.length : Int) + 8))).run Tryz.prog w = .ok (.slice (some ⟨w.heap.size, 0, none⟩) (G.length + 8) (G.length + 8)) (w.alloc (.cells (two xE yE (List.replicate (G.length + 8) (0, 0))).toArray 166)) := fun w => run_make_two xE yE (0, 0) 29 166 16 Tryz.underlying29 Tryz.infoGrant (G.length + 8) (by omega) (by omega) w
  unfold cfgCells
  go_enter Tryz.func80, Tryz.ntmps80
  go_wp2_with (refine wpList_copy_two (x := xE) (y := yE) rfl (.tmp 16) (.tmp 18) 27 rfl 169 Tryz.underlying27 Tryz.sizeEdge (w.heap.size + 2) (E.length + 8) 8 ea ec E (0, 0) rfl rfl rfl ?r1 ?s1 one_E ?_)
  case r1 => exact alloc3_2 _ _ _ _
  case s1 => exact A1.out.below ((((Below.refl _ _).alloc (Nat.le_refl _) _).alloc (by simp) _).alloc (by simp; omega) _)
  intro w1 r1 o1
  have b0 := hide (o1.row (by omega) (alloc3_0 _ _ _ _))
  have b1 := hide (o1.row (by omega) (alloc3_1 _ _ _ _))
  have s1 : w1.heap.size = w.heap.size + 3 := by rw [o1.size]; simp
  have hb1 : Below w.heap.size w w1 := ((((Below.refl _ _).alloc (Nat.le_refl _) _).alloc (by simp) _).alloc (by simp; omega) _).trans (o1.below (by omega))
  have R1 := hide r1
  have q1 : w1.cell? ⟨w.heap.size, 1, none⟩ = some (.slice ea E.length ec) := by rw [cell_of_row _ _ _ _ _ _ b0.out]; rfl
  have q2 : w1.cell? ⟨w.heap.size, 2, none⟩ = some (.slice ra R.length rc) := by rw [cell_of_row _ _ _ _ _ _ b0.out]; rfl
  have q3 : w1.cell? ⟨w.heap.size, 3, none⟩ = some (.slice ga G.length gc) := by rw [cell_of_row _ _ _ _ _ _ b0.out]; rfl
  clear o1 r1
  go_wp2_with (refine wpList_copy_two (x := xR) (y := yR) rfl (.tmp 26) (.tmp 28) 28 rfl 163 Tryz.underlying28 Tryz.sizeRule (w.heap.size + 3) (R.length + 8) 8 ra rc R (ByteArray.empty, 0) rfl rfl rfl ?r2 ?s2 one_R ?_)
  case r2 =>
    have := Go.heap_alloc_new w1 (.cells (two xR yR (List.replicate (R.length + 8) (ByteArray.empty, 0))).toArray 163)
    rw [s1] at this; exact this
  case s2 => exact A2.out.below (hb1.alloc (by omega) _)
  intro w2 r2 o2
  have b0' := hide (o2.row (by omega) (row_alloc' b0.out))
  have b1' := hide (o2.row (by omega) (row_alloc' b1.out))
  have R1' : Hid (RowAt xE yE w2 (w.heap.size + 2) 169 (E ++ pad 8 (0, 0))) := o2.row (by omega) (row_alloc' R1.out)
  have s2 : w2.heap.size = w.heap.size + 4 := by rw [o2.size]; simp [s1]
  have hb2 : Below w.heap.size w w2 := (hb1.alloc (by omega) _).trans (o2.below (by omega))
  have R2 := hide r2
  have q3' : w2.cell? ⟨w.heap.size, 3, none⟩ = some (.slice ga G.length gc) := by rw [cell_of_row _ _ _ _ _ _ b0'.out]; rfl
  clear o2 r2 q1 q2 q3 b0 b1 R1 s1 hb1 m1 m2
  go_wp2_with (refine wpList_copy_two (x := xE) (y := yE) rfl (.tmp 36) (.tmp 38) 29 rfl 166 Tryz.underlying29 Tryz.sizeGrant (w.heap.size + 4) (G.length + 8) 8 ga gc G (0, 0) rfl rfl rfl ?r3 ?s3 one_E ?_)
  case r3 =>
    have := Go.heap_alloc_new w2 (.cells (two xE yE (List.replicate (G.length + 8) (0, 0))).toArray 166)
    rw [s2] at this; exact this
  case s3 => exact A3.out.below (hb2.alloc (by omega) _)
  intro w3 r3 o3
  have hm : LentMid w3 w.heap.size ⟨L, E, R, G⟩ ⟨ea, ec, ra, rc, ga, gc⟩ 0 :=
    ⟨o3.row (by omega) (row_alloc' b0'.out), o3.row (by omega) (row_alloc' b1'.out), o3.row (by omega) (row_alloc' R1'.out), o3.row (by omega) (row_alloc' R2.out), r3⟩
  have hb3 : Below w.heap.size w w3 := (hb2.alloc (by omega) _).trans (o3.below (by omega))
  have HM := hide hm
  clear o3 r3 hm q3' b0' b1' R1' R2 s2 hb2 m3
  go_wp2
  go_loopw [9] (fun i wr => ∃ k : Nat, k ≤ 8 ∧ i = .int .i64 k ∧ LentMid wr w.heap.size ⟨L, E, R, G⟩ ⟨ea, ec, ra, rc, ga, gc⟩ k ∧ Below w.heap.size w wr) (fun i _ => 8 - (intOf i).toNat)
  case atStart => exact ⟨0, Nat.zero_le _, rfl, HM.out, hb3⟩
  case round =>
    obtain ⟨k, hk, rfl, hm, hbel⟩ := hrel
    have HK := hide hm
    by_cases hlt : k < 8
    · obtain ⟨e1, e2⟩ := hm.edges.cell (pad_get E k _ _ hlt)
      obtain ⟨e3, e4⟩ := hm.rules.cell (pad_get R k _ _ hlt)
      obtain ⟨e5, e6⟩ := hm.grants.cell (pad_get G k _ _ hlt)
      have f1 := hm.edges.frozen ((E.length + k) * 2)
      have f2 := hm.edges.frozen ((E.length + k) * 2 + 1)
      have f3 := hm.rules.frozen ((R.length + k) * 2)
      have f4 := hm.rules.frozen ((R.length + k) * 2 + 1)
      have f5 := hm.grants.frozen ((G.length + k) * 2)
      have f6 := hm.grants.frozen ((G.length + k) * 2 + 1)
      clear hm
      go_wp2
      go_roundw
      case rel => exact ⟨k + 1, by omega, by go_num, HK.out.round hlt, lentRound_below ⟨L, E, R, G⟩ k hbel⟩
      case measure => simp [intOf]; omega
    · have : k = 8 := by omega
      subst this
      have c0 : wr.cell? ⟨w.heap.size, 0, none⟩ = some (.int .i64 L) := by rw [cell_of_row _ _ _ _ _ _ hm.cfg]; rfl
      have c1 : wr.cell? ⟨w.heap.size, 1, none⟩ = some (.slice ea E.length ec) := by rw [cell_of_row _ _ _ _ _ _ hm.cfg]; rfl
      have c2 : wr.cell? ⟨w.heap.size, 2, none⟩ = some (.slice ra R.length rc) := by rw [cell_of_row _ _ _ _ _ _ hm.cfg]; rfl
      have c3 : wr.cell? ⟨w.heap.size, 3, none⟩ = some (.slice ga G.length gc) := by rw [cell_of_row _ _ _ _ _ _ hm.cfg]; rfl
      have d0 : wr.cell? ⟨w.heap.size + 1, 0, none⟩ = some (.int .i64 0) := by rw [cell_of_row _ _ _ _ _ _ hm.res]; rfl
      have d1 : wr.cell? ⟨w.heap.size + 1, 1, none⟩ = some (.slice none 0 0) := by rw [cell_of_row _ _ _ _ _ _ hm.res]; rfl
      have d2 : wr.cell? ⟨w.heap.size + 1, 2, none⟩ = some (.slice none 0 0) := by rw [cell_of_row _ _ _ _ _ _ hm.res]; rfl
      have d3 : wr.cell? ⟨w.heap.size + 1, 3, none⟩ = some (.slice none 0 0) := by rw [cell_of_row _ _ _ _ _ _ hm.res]; rfl
      have fc : ∀ j, wr.frozen? ⟨w.heap.size, j, none⟩ = false := fun j => frozen_of_row _ _ _ _ _ hm.cfg
      have fd : ∀ j, wr.frozen? ⟨w.heap.size + 1, j, none⟩ = false := fun j => frozen_of_row _ _ _ _ _ hm.res
      have n1 : ∀ (w : World) a n c, (Go.binOp .neq 27 (.slice a n c) (.slice none 0 0)).run Tryz.prog w = .ok (.bool (!a.isNone)) w := fun w a n c => Go.run_neq_slice_nil_any w 27 169 a n c 0 0 Tryz.underlying27
      have n2 : ∀ (w : World) a n c, (Go.binOp .neq 28 (.slice a n c) (.slice none 0 0)).run Tryz.prog w = .ok (.bool (!a.isNone)) w := fun w a n c => Go.run_neq_slice_nil_any w 28 163 a n c 0 0 Tryz.underlying28
      have n3 : ∀ (w : World) a n c, (Go.binOp .neq 29 (.slice a n c) (.slice none 0 0)).run Tryz.prog w = .ok (.bool (!a.isNone)) w := fun w a n c => Go.run_neq_slice_nil_any w 29 166 a n c 0 0 Tryz.underlying29
      clear hm
      go_wp2
      all_goals
        refine bodyPost_ret (v := .agg #[.int .i64 L, ifV ea ⟨w.heap.size + 2, 0, none⟩ E.length (E.length + 8) ec, ifV ra ⟨w.heap.size + 3, 0, none⟩ R.length (R.length + 8) rc, ifV ga ⟨w.heap.size + 4, 0, none⟩ G.length (G.length + 8) gc]) ?_ rfl ?_
        · simp [results, Tryz.results80, go_sem, ifV, *]
        · refine ⟨w.heap.size + 2, w.heap.size + 3, w.heap.size + 4, ret_cfg (ifV_eq HN.out.edges) (ifV_eq HN.out.rules) (ifV_eq HN.out.grants), ?_, by omega, by omega, by omega, ?_⟩
          · repeat (refine LentAt.other ?_ (by omega) (by omega) (by omega))
            exact HK.out.done
          · repeat (refine Below.setCell ?_ (by dsimp only; omega) _)
            exact hbel
end Go.Proofs.YtgigkiocdiffjaaGreat
