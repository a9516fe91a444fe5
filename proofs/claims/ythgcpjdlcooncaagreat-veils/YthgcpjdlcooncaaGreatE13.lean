/- DocP, DocQ, DocR, DocW, DocX. -/
import Derived.Test.YthgcpjdlcooncaaGreatE12
namespace Go.Proofs.YthgcpjdlcooncaaGreat
open Go.RowKit Veil
theorem Tryz.infoRAct : (Tryz.prog.info? 158).map (fun i => (i.zero, i.size, i.bytes)) = some (some (.agg #[.int .i64 0, .int .i64 0, .int .i64 0, .int .i64 0]), 4, 32) := by kernel_rfl
section
variable {w0 w w1 w2 : World} {g : Nat} {c : Cfg} {v : CfgV} {rows : List (RC × Value)} {acts : List RA} {rv av : Value}
/-- Something more was done. -/
theorem actStep {g' cap' : Nat} {a : RA} (h : RDocO w0 w g c v rows acts rv av) (h1 : Below w.heap.size w w1)
    (hown : OwnL 158 4 actV w2 w0.heap.size (.slice (some ⟨g', 0, none⟩) (acts.length + 1) cap') (acts ++ [a])) (hgrow : w1.grownBy w2 av.ownBlock) (hat : av.ownBlock = some g' ∨ g' = w1.heap.size) (hlt : g' < w2.heap.size) :
    RDocO w0 (w2.setCell ⟨g, 5, none⟩ (.slice (some ⟨g', 0, none⟩) (acts.length + 1) cap')) g c v rows (acts ++ [a]) rv (.slice (some ⟨g', 0, none⟩) (acts.length + 1) cap') ∧
    Only (fun k => ∃ s, blkOf' g rv av rows s = some k) w (w2.setCell ⟨g, 5, none⟩ (.slice (some ⟨g', 0, none⟩) (acts.length + 1) cap')) ∧
    (∀ s b, blkOf' g rv (.slice (some ⟨g', 0, none⟩) (acts.length + 1) cap') rows s = some b → (∃ s, blkOf' g rv av rows s = some b) ∨ w.heap.size ≤ b) := by
  have hbox : blkOf' g rv av rows .box = some g := rfl
  have hact : blkOf' g rv av rows .acts = av.ownBlock := rfl
  have hag : ∀ b, av.ownBlock = some b → b ≠ g := fun b hb e => by subst e; cases h.parts.apart .box .acts b rfl hb
  have hgl := h.parts.low .box g rfl
  have hg'g : g' ≠ g := fun e => by
    rcases hat with h3 | h3
    · exact hag g' h3 e
    · have := h1.size; omega
  have hsz2 : w.heap.size ≤ w2.heap.size := Nat.le_trans h1.size hgrow.size
  have hB0 := h.old.size
  have k2 : ∀ {α : Type} {e : TypeId} {sz : Nat} {f : α → List Value} {x : Value} {l : List α}, OwnL e sz f w w0.heap.size x l → (∀ b, x.ownBlock = some b → av.ownBlock = some b → False) → OwnL e sz f w2 w0.heap.size x l := fun hx hb => (hx.below h1).kept hgrow hb
  have k3 : ∀ {α : Type} {e : TypeId} {sz : Nat} {f : α → List Value} {x : Value} {l : List α}, OwnL e sz f w2 w0.heap.size x l → (∀ b, x.ownBlock = some b → b ≠ g) → OwnL e sz f (w2.setCell ⟨g, 5, none⟩ (.slice (some ⟨g', 0, none⟩) (acts.length + 1) cap')) w0.heap.size x l := fun hx hb => hx.kept (grown_setCell _ _ _) (fun b hb1 hb2 => hb b hb1 (Option.some.inj hb2).symm)
  have hpart : ∀ s, s ≠ .acts → blkOf' g rv (.slice (some ⟨g', 0, none⟩) (acts.length + 1) cap') rows s = blkOf' g rv av rows s := by
    intro s hs
    cases s with
    | acts => exact absurd rfl hs
    | _ => rfl
  have hnew : ∀ b, blkOf' g rv (.slice (some ⟨g', 0, none⟩) (acts.length + 1) cap') rows .acts = some b → blkOf' g rv av rows .acts = some b ∨ (w.heap.size ≤ b ∧ b < w2.heap.size) := by
    intro b hb
    obtain rfl : g' = b := Option.some.inj hb
    rcases hat with h3 | h3
    · exact Or.inl h3
    · right; have := h1.size; omega
  refine ⟨⟨?_, h.cfg, ?_, ?_, ?_, ?_, ?_⟩, ?_, ?_⟩
  · have e1 : w2.heap[g]? = w.heap[g]? := by
      rw [hgrow.block g (Nat.lt_of_lt_of_le h.box.lt h1.size) (fun e => hag g e.symm rfl), h1.block g h.box.lt]
    unfold RBox
    rw [heap_setCell_same _ _ _ _ _ _ (e1.trans h.box)]
    rfl
  · refine ⟨?_, ?_, ?_, ?_, ?_⟩
    · exact hgrow.os.trans (h1.os.trans h.old.os)
    · exact hgrow.tape.trans (h1.tape.trans h.old.tape)
    · exact hgrow.output.trans (h1.output.trans h.old.output)
    · rw [size_setCell']; omega
    · intro k hk
      rw [heap_setCell_other _ _ _ _ (show k ≠ g by omega), hgrow.block k (by have := h1.size; omega) (fun e => by have := (h.parts.low .acts k e.symm).1; omega), h1.block k (by omega)]
      exact h.old.block k hk
  · exact k3 (k2 h.row (fun b hb1 hb2 => by cases h.parts.apart .row .acts b hb1 hb2)) (fun b hb e => by subst e; cases h.parts.apart .box .row b rfl hb)
  · intro i q hq
    have hbi : blkOf' g rv av rows (.mk i) = q.2.ownBlock := by simp only [blkOf', hq, Option.bind_some]
    exact k3 (k2 (h.marks i q hq) (fun b hb1 hb2 => by cases h.parts.apart (.mk i) .acts b (hbi.trans hb1) hb2)) (fun b hb e => by subst e; cases h.parts.apart .box (.mk i) b rfl (hbi.trans hb))
  · exact k3 hown (fun b hb => by rw [← Option.some.inj hb]; exact hg'g)
  · have := h.parts.upd .acts hsz2 hB0 hpart hnew
    rw [size_setCell']
    exact this
  · refine ⟨?_, ?_, ?_, ?_, fun k hk hF => ?_⟩
    · exact hgrow.os.trans h1.os
    · exact hgrow.tape.trans h1.tape
    · exact hgrow.output.trans h1.output
    · rw [size_setCell']; exact hsz2
    · rw [heap_setCell_other _ _ _ _ (fun e => hF ⟨.box, by rw [hbox, e]⟩), hgrow.block k (Nat.lt_of_lt_of_le hk h1.size) (fun e => hF ⟨.acts, e.symm⟩), h1.block k hk]
  · intro s b hb
    by_cases hs : s = .acts
    · subst hs
      rcases hnew b hb with h3 | h3
      · exact Or.inl ⟨_, h3⟩
      · exact Or.inr h3.1
    · rw [hpart s hs] at hb
      exact Or.inl ⟨s, hb⟩
end
end Go.Proofs.YthgcpjdlcooncaaGreat
namespace Go.Proofs.YthgcpjdlcooncaaGreat
open Go.RowKit Veil
structure PlOk (n : Nat) (p : Pl) : Prop where
  byte : p.b < 256
  le : p.first ≤ p.last
  lt : p.last < n
theorem mem_lastTo {l : List Pl} {x : Nat} {p : Pl} (h : p ∈ lastTo l x) : p ∈ l ∨ ∃ q, q ∈ l ∧ p = ⟨q.b, q.first, x⟩ := by
  obtain ⟨i, hi, he⟩ := List.getElem_of_mem h
  unfold lastTo at he hi
  rw [List.getElem_modify] at he
  split at he
  · exact Or.inr ⟨_, List.getElem_mem _, he.symm⟩
  · exact Or.inl (he ▸ List.getElem_mem _)
theorem plTo_ok {A B : Nat → Nat} {h : Nat → Bool} {m : Nat} (hB : ∀ j, j < m → B j < 256) (hmono : ∀ i j, i < j → j < m → A i < A j) : ∀ k, k ≤ m → ∀ p, p ∈ plTo A B h k → p.b < 256 ∧ p.first ≤ p.last ∧ ∃ j, j < k ∧ p.last = A j := by
  intro k
  induction k with
  | zero => intro _ p hp; simp [plTo] at hp
  | succ k ih =>
    intro hk p hp
    have old : ∀ q, q ∈ plTo A B h k → q.b < 256 ∧ q.first ≤ q.last ∧ ∃ j, j < k + 1 ∧ q.last = A j := fun q hq => by
      obtain ⟨h1, h2, j, h3, h4⟩ := ih (by omega) q hq
      exact ⟨h1, h2, j, by omega, h4⟩
    rw [plTo] at hp
    cases hh : h k
    · rw [hh] at hp
      simp only [cond_false, List.mem_append, List.mem_singleton] at hp
      rcases hp with hp | rfl
      · exact old p hp
      · exact ⟨hB k (by omega), Nat.le_refl _, k, by omega, rfl⟩
    · rw [hh] at hp
      cases h2 : (decide (0 < k) && h (k - 1))
      · rw [h2] at hp
        simp only [cond_true, cond_false, List.mem_append, List.mem_singleton] at hp
        rcases hp with hp | rfl
        · exact old p hp
        · exact ⟨show (35 : Nat) < 256 by decide, Nat.le_refl _, k, by omega, rfl⟩
      · rw [h2] at hp
        simp only [cond_true] at hp
        rcases mem_lastTo hp with hp | ⟨q, hq, rfl⟩
        · exact old p hp
        · obtain ⟨h1, h2, j, h3, h4⟩ := ih (by omega) q hq
          refine ⟨h1, ?_, k, by omega, rfl⟩
          have := hmono j k h3 (by omega)
          simp only
          omega
theorem numF_mono (c : Cfg) (row : List RC) (d k : Nat) : ∀ i j, i < j → j < (atTo c row d k).length → numF (atTo c row d k) i < numF (atTo c row d k) j := by
  intro i j hij hj
  have hp : List.Pairwise (· < ·) (atTo c row d k) := by
    unfold atTo
    exact List.Pairwise.filter _ List.pairwise_lt_range
  have := List.pairwise_iff_getElem.1 hp i j (by omega) hj hij
  have h1 : numF (atTo c row d k) i = (atTo c row d k)[i]'(by omega) := by simp [numF, List.getD, List.getElem?_eq_getElem (show i < (atTo c row d k).length by omega)]
  have h2 : numF (atTo c row d k) j = (atTo c row d k)[j] := by simp [numF, List.getD, List.getElem?_eq_getElem hj]
  rw [h1, h2]; exact this
theorem placesR_ok (c : Cfg) (row : List RC) (d : Nat) (hb : ∀ x, x ∈ row → x.b < 256) : (placesR c row d).length ≤ row.length ∧ ∀ p, p ∈ placesR c row d → PlOk row.length p := by
  have hl := atTo_length c row d row.length
  have hA : ∀ j, j < (atTo c row d row.length).length → numF (atTo c row d row.length) j < row.length := fun j hj => by
    have h2 : numF (atTo c row d row.length) j = (atTo c row d row.length)[j] := by simp [numF, List.getD, List.getElem?_eq_getElem hj]
    rw [h2]; exact atTo_lt (List.getElem_mem hj)
  have hB : ∀ r, byF row r < 256 := fun r => by
    unfold byF cellAt
    by_cases hr : r < row.length
    · have : row.getD r ⟨0, 0, []⟩ = row[r] := by simp [List.getD, hr]
      rw [this]; exact hb _ (List.getElem_mem hr)
    · have : row.getD r ⟨0, 0, []⟩ = ⟨0, 0, []⟩ := by simp [List.getD]; rw [List.getElem?_eq_none (by omega)]; rfl
      rw [this]; decide
  unfold placesR placesF
  refine ⟨Nat.le_trans (plTo_length _ _ _ _).1 hl, fun p hp => ?_⟩
  obtain ⟨h1, h2, j, h3, h4⟩ := plTo_ok (fun j _ => hB _) (numF_mono c row d row.length) _ (Nat.le_refl _) p hp
  exact ⟨h1, h2, by rw [h4]; exact hA j h3⟩
theorem plB_ok {n : Nat} {P : List Pl} (h : ∀ p, p ∈ P → PlOk n p) (j : Nat) : plB P j < 256 := by
  unfold plB
  by_cases hj : j < P.length
  · have : P.getD j ⟨0, 0, 0⟩ = P[j] := by simp [List.getD, hj]
    rw [this]; exact (h _ (List.getElem_mem hj)).byte
  · have : P.getD j ⟨0, 0, 0⟩ = ⟨0, 0, 0⟩ := by simp [List.getD]; rw [List.getElem?_eq_none (by omega)]; rfl
    rw [this]; decide
end Go.Proofs.YthgcpjdlcooncaaGreat
namespace Go.Proofs.YthgcpjdlcooncaaGreat
open Go.RowKit Veil
theorem places_of {c : Cfg} {rows : List (RC × Value)} (hok : RDocOk c rows) (d : Nat) : (placesR c (rows.map (·.1)) d).length ≤ rows.length ∧ ∀ p, p ∈ placesR c (rows.map (·.1)) d → PlOk rows.length p := by
  have := placesR_ok c (rows.map (·.1)) d (fun x hx => by
    obtain ⟨p, hp, rfl⟩ := List.mem_map.1 hx
    exact (hok.cells p hp).1.byte)
  simpa using this
theorem RDocO.drop {w0 w w' : World} {g : Nat} {c : Cfg} {v : CfgV} {rows : List (RC × Value)} {acts : List RA} {rv av : Value} (h : RDocO w0 w g c v rows acts rv av) (hb : Below w.heap.size w w') : RDocO w0 w' g c v rows acts rv av :=
  h.kept (F := fun _ => False) (Only.of_below hb) (fun _ h => absurd h (fun h => h)) (fun _ _ _ h => h)
set_option maxRecDepth 100000 in
set_option maxHeartbeats 8000000 in
theorem rdelete_no1 (c : Cfg) (v : CfgV) (rows : List (RC × Value)) (rv av : Value) (g : Nat) (level a b : Int) (w : World) (hdoc : RDocR w g c v rows rv av) (hlv : okL c.labels level = false) :
    Calls Tryz.prog 73 #[.pointer (some ⟨g, 0, none⟩), .int .i64 level, .int .i64 a, .int .i64 b] w fun e w' => e = .returned (.int .i64 6) ∧ Below w.heap.size w w' := by
  have HLB := hide (fun w' => rlabel_any c v level w')
  obtain ⟨q0, q1, q2, q3⟩ := hdoc.box.cells
  rw [hlv] at HLB
  unfold cfgCells at HLB
  clear hlv hdoc
  go_enter Tryz.func73, Tryz.ntmps73
  go_wp2_with fail
  refine (HLB.out _).mono ?_
  rintro e w1 ⟨rfl, hb1⟩
  go_wp2
  go_ret
  exact ⟨rfl, hb1⟩
set_option maxRecDepth 100000 in
set_option maxHeartbeats 8000000 in
theorem rdelete_no2 (c : Cfg) (v : CfgV) (rows : List (RC × Value)) (rv av : Value) (g level : Nat) (a b : Int) (w : World) (hdoc : RDocR w g c v rows rv av) (hok : RDocOk c rows) (hlv : okL c.labels level = true) (hno : a < 0 ∨ b ≤ a ∨ ((placesR c (rows.map (·.1)) level).length : Int) < b) :
    Calls Tryz.prog 73 #[.pointer (some ⟨g, 0, none⟩), .int .i64 level, .int .i64 a, .int .i64 b] w fun e w' => e = .returned (.int .i64 7) ∧ Below w.heap.size w w' := by
  obtain ⟨_, _, _, _, hn, _, _⟩ := labels_of hok.labels
  obtain ⟨lv, hlv1, hlv2⟩ := okL_nat' hn hlv
  obtain rfl : level = lv := by omega
  have HLB := hide (fun w' => rlabel_any c v level w')
  have HCE := hide (fun (w' : World) (hb : Below w.heap.size w w') => rcells_no c v rows rv av g level a b w' (hdoc.below hb) hok hlv2 hno)
  obtain ⟨q0, q1, q2, q3⟩ := hdoc.box.cells
  rw [hlv] at HLB
  unfold cfgCells at HLB
  clear hlv hdoc hok hno hn hlv1
  go_enter Tryz.func73, Tryz.ntmps73
  go_wp2_with fail
  refine (HLB.out _).mono ?_
  rintro e w1 ⟨rfl, hb1⟩
  go_wp2_with fail
  refine (HCE.out _ hb1).mono ?_
  rintro e w2 ⟨rfl, hb2⟩
  have hb := hb1.trans (hb2.mono hb1.size)
  clear hb1 hb2 q0 q1 q2 q3
  go_wp2
  go_ret
  exact ⟨rfl, hb⟩
set_option maxRecDepth 100000 in
set_option maxHeartbeats 16000000 in
theorem rdelete_ok (w0 w : World) (g : Nat) (c : Cfg) (v : CfgV) (rows : List (RC × Value)) (acts : List RA) (rv av : Value) (level a b : Nat) (hdoc : RDocO w0 w g c v rows acts rv av) (hok : RDocOk c rows) (hlv : okL c.labels level = true) (hab : a < b) (hbl : b ≤ (placesR c (rows.map (·.1)) level).length)
    (hmk : ∀ (i : Nat) (p : RC × Value), rows[i]? = some p → p.1.marks.length ≤ 4000000000000) (hal : acts.length ≤ 4000000000000) (hrc : (cellsTo c (rows.map (·.1)) level (placesR c (rows.map (·.1)) level) a b).length ≤ 1000000000000 ∧ ∀ r, r ∈ cellsTo c (rows.map (·.1)) level (placesR c (rows.map (·.1)) level) a b → r < rows.length) :
    Calls Tryz.prog 73 #[.pointer (some ⟨g, 0, none⟩), .int .i64 level, .int .i64 a, .int .i64 b] w
      fun e w' => e = .returned (.int .i64 0) ∧ ∃ rows' av', RDocO w0 w' g c v rows' (acts ++ [⟨2, level, level, 0⟩]) rv av' ∧ rows'.map (·.1) = markAll (rows.map (·.1)) (cellsTo c (rows.map (·.1)) level (placesR c (rows.map (·.1)) level) a b) ⟨2, level, 0⟩ ∧ Only (fun k => ∃ s, blkOf' g rv av rows s = some k) w w' ∧ (∀ s b, blkOf' g rv av' rows' s = some b → (∃ s, blkOf' g rv av rows s = some b) ∨ w.heap.size ≤ b) := by
  obtain ⟨_, _, _, _, hn, _, _⟩ := labels_of hok.labels
  obtain ⟨lv, hlv1, hlv2⟩ := okL_nat' hn hlv
  obtain rfl : level = lv := by omega
  obtain ⟨hp1, hp2⟩ := places_of hok level
  have HLB := hide (fun w' => rlabel_any c v level w')
  have HCE := hide (fun (w' : World) (hb : Below w.heap.size w w') => rcells_ok c v rows rv av g level a b w' (hdoc.read.below hb) hok hlv2 hab hbl hp1 (fun p hp => ⟨(hp2 p hp).le, (hp2 p hp).lt⟩))
  have HDOC := hide hdoc
  obtain ⟨q0, q1, q2, q3⟩ := hdoc.box.cells
  rw [hlv] at HLB
  unfold cfgCells at HLB
  have HRC := hide hrc
  have HMK := hide hmk
  generalize cellsTo c (rows.map (·.1)) level (placesR c (rows.map (·.1)) level) a b = L at *
  clear hlv hdoc hok hn hlv1 hp1 hp2 hbl hrc hmk
  go_enter Tryz.func73, Tryz.ntmps73
  go_wp2_with fail
  refine (HLB.out _).mono ?_
  rintro e w1 ⟨rfl, hb1⟩
  go_wp2_with fail
  refine (HCE.out _ hb1).mono ?_
  rintro e w2 ⟨vl, rfl, hvl, hb2⟩
  have hbw := hb1.trans (hb2.mono hb1.size)
  have HD2 := hide (HDOC.out.drop hbw)
  have HVL := hide hvl
  have hsz1 := hb1.size
  clear hb1 hb2 q0 q1 q2 q3 hvl
  obtain ⟨lao, lcap, hvv⟩ := HVL.out.shape
  subst hvv
  have HMA : Hid (Calls Tryz.prog 106 #[.pointer (some ⟨g, 0, none⟩), .slice lao L.length lcap, .agg #[.int .i64 2, .int .i64 level, .int .i64 0]] w2
      fun e w' => e = .returned (.tuple #[]) ∧ ∃ rows', RDocO w0 w' g c v rows' acts rv av ∧ rows'.map (·.1) = markAll (rows.map (·.1)) L ⟨2, level, 0⟩ ∧ Only (fun k => ∃ s, blkOf' g rv av rows s = some k) w2 w' ∧ (∀ s b, blkOf' g rv av rows' s = some b → (∃ s, blkOf' g rv av rows s = some b) ∨ w2.heap.size ≤ b)) := by
    by_cases hL0 : L.length = 0
    · exact rmark_any w0 w2 g c v rows acts rv av L lao 0 lcap ⟨2, level, 0⟩ HD2.out (Or.inl (List.eq_nil_of_length_eq_zero hL0)) (fun h => absurd (List.eq_nil_of_length_eq_zero hL0) h) (fun h => absurd (List.eq_nil_of_length_eq_zero hL0) h) (fun k r h => by rw [List.eq_nil_of_length_eq_zero hL0] at h; simp at h) (by omega) (fun i p hp => by have := HMK.out i p hp; omega)
    · obtain ⟨lb, lc, hvv, hlb1, hlb2⟩ := HVL.out.form (by omega)
      simp only [Value.slice.injEq] at hvv
      obtain ⟨rfl, _, rfl⟩ := hvv
      refine rmark_any w0 w2 g c v rows acts rv av L _ lb lcap ⟨2, level, 0⟩ HD2.out (Or.inr rfl) (fun _ => hlb2) (fun _ s hs => ?_) (fun k r h => ⟨?_, HRC.out.2 r (List.mem_of_getElem? h)⟩) (by have := HRC.out.1; omega) (fun i p hp => by have := HMK.out i p hp; have := HRC.out.1; omega)
      · have := (HDOC.out.parts.low s lb hs).2
        omega
      · have := HVL.out.cell (show ∀ a, (intV a).length = 1 from fun _ => rfl) rfl h (j := 0) Nat.zero_lt_one
        simpa [intV] using this
  go_wp2_with fail
  refine (HMA.out).mono ?_
  rintro e w3 ⟨rfl, rows', hd3, hm3, ho3, hf3⟩
  have HD3 := hide hd3
  have HM3 := hide hm3
  have HO3 := hide ((Only.of_below (F := fun k => ∃ s, blkOf' g rv av rows s = some k) hbw).trans ho3 (fun k h => Or.inl h))
  have HF3 := hide (show ∀ s b, blkOf' g rv av rows' s = some b → (∃ s, blkOf' g rv av rows s = some b) ∨ w.heap.size ≤ b from fun s b hb => (hf3 s b hb).imp id (fun h => by have := hbw.size; omega))
  have t5 := hd3.box.acts
  have hgl := hd3.box.lt
  have hbA : Below w3.heap.size w3 (w3.alloc (.cells #[.int .i64 2, .int .i64 level, .int .i64 level, .int .i64 0] 158)) := below_box w3 _
  have HOA := hide (hd3.acts.below hbA)
  have HNA := hide (Go.heap_alloc_new w3 (.cells #[.int .i64 2, .int .i64 level, .int .i64 level, .int .i64 0] 158))
  have HAG := hide (show ∀ b, av.ownBlock = some b → b ≠ g from fun b hb e => by subst e; cases HD3.out.parts.apart .box .acts b rfl hb)
  have HBX3 := hide hd3.box
  have hB0 := hd3.old.size
  clear hd3 hm3 ho3 hf3
  go_wp2_with (at_builtin; refine wpList_push rfl (.tmp 37) (.tmp 41) 76 rfl (.agg #[.int .i64 0, .int .i64 0, .int .i64 0, .int .i64 0]) 32 Tryz.underlying76 Tryz.infoRAct rfl (by decide) rfl HOA.out w3.heap.size 1 ⟨2, level, level, 0⟩ rfl 158 (0, 0) HNA.out rfl (by intro u hu; simp [actV] at hu; rcases hu with rfl | rfl | rfl <;> rfl) (by omega) (by decide) (by simp; omega) (w3.heap.size + 1) (by simp) ?_; intro g6 cap6 w6 hown6 hgrow6 hat6 hlt6; have z5 := (hgrow6.cell_far ⟨g, 5, none⟩ (by simp; omega) (fun e => HAG.out _ e.symm rfl)).trans ((hbA.cell (p := ⟨g, 5, none⟩) hgl).trans t5); have z7 : w6.frozen? ⟨g, 5, none⟩ = false := by (rw [hgrow6.frozen_far ⟨g, 5, none⟩ (by simp; omega) (fun e => HAG.out _ e.symm rfl)]; exact frozen_of_row _ _ _ _ _ (row_alloc' HBX3.out)))
  obtain ⟨n1, n2, n3⟩ := actStep HD3.out hbA hown6 hgrow6 (by have h : av.ownBlock = some g6 ∨ g6 = w3.heap.size + 1 := hat6; simpa using h) hlt6
  go_ret
  exact ⟨rfl, rows', _, n1, HM3.out, HO3.out.trans n2 (fun b ⟨s, hs⟩ => HF3.out s b hs), fun s b hb => by
    rcases n3 s b hb with ⟨s', hs⟩ | h
    · exact HF3.out s' b hs
    · right; have := HO3.out.size; omega⟩
end Go.Proofs.YthgcpjdlcooncaaGreat
namespace Go.Proofs.YthgcpjdlcooncaaGreat
open Go.RowKit Veil
structure Sp where
  kind : Nat
  lo : Nat
  hi : Nat
def spV (x : Sp) : List Value := [.int .i64 x.kind, .int .i64 x.lo, .int .i64 x.hi]
def bt (s : ByteArray) (j : Nat) : Nat := ((bytes s).getD j 0).toNat
theorem bt_get (s : ByteArray) (j : Nat) (h : j < s.size) : bt s j = s[j].toNat := by
  have : (bytes s).getD j 0 = s[j] := by
    rw [← bytes_get s j h, List.getD, List.getElem?_eq_getElem (by rw [bytes_length]; exact h)]; rfl
  unfold bt; rw [this]
/-- The span that begins at a place. -/
def spanF (s : ByteArray) (i : Nat) : Sp :=
  bif bt s i == 32 then ⟨0, 0, 0⟩ else bif bt s i == 35 then ⟨3, i, i + 1⟩ else bif kindN (bt s i) == 0 then ⟨4, i, i + 1⟩ else
    bif decide (0 < i) && (kindN (bt s (i - 1)) == kindN (bt s i)) then ⟨0, 0, 0⟩ else
      bif kindN (bt s i) == 97 then ⟨1, i, fwdF (fun j => kindN (bt s j) == kindN (bt s i)) s.size (s.size - i) i⟩ else ⟨2, i, fwdF (fun j => kindN (bt s j) == kindN (bt s i)) s.size (s.size - i) i⟩
theorem Tryz.sizeSpan : (Tryz.prog.info? 57).map (·.size) = some 3 := by kernel_rfl
set_option maxRecDepth 100000 in
set_option maxHeartbeats 8000000 in
theorem rspan_any (s : ByteArray) (i : Nat) (w : World) (hi : i < s.size) (hs : s.size ≤ 140737488355328) :
    Calls Tryz.prog 82 #[.string s, .int .i64 i] w fun e w' => e = .returned (.agg (spV (spanF s i)).toArray) ∧ Below w.heap.size w w' := by
  have HKD := hide (show ∀ (x k : Nat) (w' : World), kindN x = k → Calls Tryz.prog 116 #[.int .u8 x] w' fun e w'' => e = .returned (.int .u8 k) ∧ w'' = w' from fun x k w' h => (rkind_any x w').mono fun e w'' ⟨h1, h2⟩ => ⟨by rw [h1, h], h2.symm⟩)
  have hii : (i : Int) < (s.size : Int) := by omega
  have HB := hide (bt_get s i hi)
  have hnew := fun (a b c : Value) => Go.heap_alloc_new w (.cells #[a, b, c] 57)
  have hbx := fun (o : Obj) => below_box w o
  have HNEW := hide hnew
  have HBX := hide hbx
  clear hnew hbx
  by_cases b1 : s[i].toNat = 32
  · have HF := hide (show spanF s i = ⟨0, 0, 0⟩ by unfold spanF; rw [HB.out, b1]; rfl)
    have b1' : ((s[i].toNat : Nat) : Int) = 32 := by omega
    clear b1
    go_enter Tryz.func82, Tryz.ntmps82
    go_wp2
    exact bodyPost_ret (results_cell_row Tryz.results82 _ _ w.heap.size 57 #[.int .i64 0, .int .i64 0, .int .i64 0] (0, 0) _ (by simp) (HNEW.out _ _ _) Tryz.underlying57 rfl (by rw [Tryz.sizeSpan]; rfl)) rfl ⟨by rw [HF.out]; rfl, HBX.out _⟩
  by_cases b2 : s[i].toNat = 35
  · have HF := hide (show spanF s i = ⟨3, i, i + 1⟩ by unfold spanF; rw [HB.out, b2]; rfl)
    have b1' : (((s[i].toNat : Nat) : Int) == 32) = false := by simp; omega
    have b2' : ((s[i].toNat : Nat) : Int) = 35 := by omega
    clear b1 b2
    go_enter Tryz.func82, Tryz.ntmps82
    go_wp2
    exact bodyPost_ret (results_cell_row Tryz.results82 _ _ w.heap.size 57 #[.int .i64 3, .int .i64 i, .int .i64 ((i : Int) + 1)] (0, 0) _ (by simp) (HNEW.out _ _ _) Tryz.underlying57 rfl (by rw [Tryz.sizeSpan]; rfl)) rfl ⟨by rw [HF.out]; rfl, HBX.out _⟩
  have b1' : (((s[i].toNat : Nat) : Int) == 32) = false := by simp; omega
  have b2' : (((s[i].toNat : Nat) : Int) == 35) = false := by simp; omega
  have e1 : (s[i].toNat == 32) = false := by simpa using b1
  have e2 : (s[i].toNat == 35) = false := by simpa using b2
  generalize hK : kindN s[i].toNat = K at *
  have HK := hide hK
  clear hK b1 b2
  cases hk0 : ((K : Int) == 0)
  · have hk0' : (K == 0) = false := by simpa using (show ¬ K = 0 by have := hk0; simp at this; omega)
    by_cases hi0 : 0 < i
    · obtain ⟨f, hf1, hf2⟩ : ∃ f : Nat, (i : Int) - 1 = (f : Int) ∧ i = f + 1 := ⟨i - 1, by omega, by omega⟩
      have hfs : f < s.size := by omega
      have hfi : (f : Int) < (s.size : Int) := by omega
      have HBF := hide (show bt s (i - 1) = s[f].toNat by rw [hf2, Nat.add_sub_cancel]; exact bt_get s f hfs)
      have hip : (0 : Int) < (i : Int) := by omega
      have HF2 := hide hf2
      clear hf2
      cases hkf : ((kindN s[f].toNat : Int) == (K : Int))
      · have HGD := hide (show (decide (0 < i) && (kindN (bt s (i - 1)) == K)) = false by
          have : (kindN s[f].toNat == K) = false := by simpa using (show ¬ kindN s[f].toNat = K by have := hkf; simp at this; omega)
          rw [HBF.out, this]; simp)
        go_enter Tryz.func82, Tryz.ntmps82
        go_wp2_with fail
        refine (HKD.out (s[i].toNat) (K) _ HK.out).mono ?_
        rintro e w' ⟨rfl, rfl⟩
        go_wp2_with fail
        refine (HKD.out (s[f].toNat) (kindN s[f].toNat) _ rfl).mono ?_
        rintro e w' ⟨rfl, rfl⟩
        go_wp2
        go_loop [6] (fun o => ∃ u : Nat, i ≤ u ∧ u ≤ s.size ∧ o = .int .i64 u ∧ fwdF (fun j => kindN (bt s j) == K) s.size (s.size - i) i = fwdF (fun j => kindN (bt s j) == K) s.size (s.size - u) u) (fun o => s.size - (intOf o).toNat)
        case atStart => exact ⟨i, Nat.le_refl _, by omega, rfl, rfl⟩
        case round =>
          obtain ⟨u, hu1, hu2, rfl, hfw⟩ := hrel
          have HFW := hide hfw
          clear hfw
          by_cases hul : u < s.size
          · have hui : (u : Int) < (s.size : Int) := by omega
            have HBU := hide (bt_get s u hul)
            cases hku : ((kindN s[u].toNat : Int) == (K : Int))
            · have hno := hide (show (fun j => kindN (bt s j) == K) u = false by
                have : (kindN s[u].toNat == K) = false := by simpa using (show ¬ kindN s[u].toNat = K by have := hku; simp at this; omega)
                simp only [HBU.out, this])
              have HU := hide (show fwdF (fun j => kindN (bt s j) == K) s.size (s.size - i) i = u by rw [HFW.out]; exact fwdF_no hno.out)
              cases hk9 : ((K : Int) == 97)
              · have hk9' : (K == 97) = false := by simpa using (show ¬ K = 97 by have := hk9; simp at this; omega)
                have HF := hide (show spanF s i = ⟨2, i, u⟩ by unfold spanF; rw [HB.out, e1, e2, HK.out, hk0', HGD.out, hk9', HU.out]; rfl)
                go_wp2_with fail
                refine (HKD.out (s[u].toNat) (kindN s[u].toNat) _ rfl).mono ?_
                rintro e w' ⟨rfl, rfl⟩
                go_wp2
                exact bodyPost_ret (results_cell_row Tryz.results82 _ _ w.heap.size 57 #[.int .i64 2, .int .i64 i, .int .i64 u] (0, 0) _ (by simp) (HNEW.out _ _ _) Tryz.underlying57 rfl (by rw [Tryz.sizeSpan]; rfl)) rfl ⟨by rw [HF.out]; rfl, HBX.out _⟩
              · have hk9' : (K == 97) = true := by simpa using (show K = 97 by have := hk9; simp at this; omega)
                have HF := hide (show spanF s i = ⟨1, i, u⟩ by unfold spanF; rw [HB.out, e1, e2, HK.out, hk0', HGD.out, hk9', HU.out]; rfl)
                go_wp2_with fail
                refine (HKD.out (s[u].toNat) (kindN s[u].toNat) _ rfl).mono ?_
                rintro e w' ⟨rfl, rfl⟩
                go_wp2
                exact bodyPost_ret (results_cell_row Tryz.results82 _ _ w.heap.size 57 #[.int .i64 1, .int .i64 i, .int .i64 u] (0, 0) _ (by simp) (HNEW.out _ _ _) Tryz.underlying57 rfl (by rw [Tryz.sizeSpan]; rfl)) rfl ⟨by rw [HF.out]; rfl, HBX.out _⟩
            · have hys := hide (show (fun j => kindN (bt s j) == K) u = true by
                have : (kindN s[u].toNat == K) = true := by simpa using (show kindN s[u].toNat = K by have := hku; simp at this; omega)
                simp only [HBU.out, this])
              have HU := hide (show fwdF (fun j => kindN (bt s j) == K) s.size (s.size - i) i = fwdF (fun j => kindN (bt s j) == K) s.size (s.size - (u + 1)) (u + 1) by rw [HFW.out]; exact fwdF_yes hul hys.out)
              go_wp2_with fail
              refine (HKD.out (s[u].toNat) (kindN s[u].toNat) _ rfl).mono ?_
              rintro e w' ⟨rfl, rfl⟩
              go_wp2
              go_round
              case rel => exact ⟨u + 1, by omega, by omega, by go_num, HU.out⟩
              case measure => simp [intOf]; omega
          · have HUE := hide (show u = s.size by omega)
            have hud : decide ((u : Int) < (s.size : Int)) = false := by simp; omega
            have HU := hide (show fwdF (fun j => kindN (bt s j) == K) s.size (s.size - i) i = u by rw [HFW.out]; exact (by rw [HUE.out]; exact fwdF_end))
            cases hk9 : ((K : Int) == 97)
            · have hk9' : (K == 97) = false := by simpa using (show ¬ K = 97 by have := hk9; simp at this; omega)
              have HF := hide (show spanF s i = ⟨2, i, u⟩ by unfold spanF; rw [HB.out, e1, e2, HK.out, hk0', HGD.out, hk9', HU.out]; rfl)
              go_wp2
              exact bodyPost_ret (results_cell_row Tryz.results82 _ _ w.heap.size 57 #[.int .i64 2, .int .i64 i, .int .i64 u] (0, 0) _ (by simp) (HNEW.out _ _ _) Tryz.underlying57 rfl (by rw [Tryz.sizeSpan]; rfl)) rfl ⟨by rw [HF.out]; rfl, HBX.out _⟩
            · have hk9' : (K == 97) = true := by simpa using (show K = 97 by have := hk9; simp at this; omega)
              have HF := hide (show spanF s i = ⟨1, i, u⟩ by unfold spanF; rw [HB.out, e1, e2, HK.out, hk0', HGD.out, hk9', HU.out]; rfl)
              go_wp2
              exact bodyPost_ret (results_cell_row Tryz.results82 _ _ w.heap.size 57 #[.int .i64 1, .int .i64 i, .int .i64 u] (0, 0) _ (by simp) (HNEW.out _ _ _) Tryz.underlying57 rfl (by rw [Tryz.sizeSpan]; rfl)) rfl ⟨by rw [HF.out]; rfl, HBX.out _⟩
      · have HGD := hide (show (decide (0 < i) && (kindN (bt s (i - 1)) == K)) = true by
          have : (kindN s[f].toNat == K) = true := by simpa using (show kindN s[f].toNat = K by have := hkf; simp at this; omega)
          rw [HBF.out, this]; simp [hi0])
        have HF := hide (show spanF s i = ⟨0, 0, 0⟩ by unfold spanF; rw [HB.out, e1, e2, HK.out, hk0', HGD.out]; rfl)
        go_enter Tryz.func82, Tryz.ntmps82
        go_wp2_with fail
        refine (HKD.out (s[i].toNat) (K) _ HK.out).mono ?_
        rintro e w' ⟨rfl, rfl⟩
        go_wp2_with fail
        refine (HKD.out (s[f].toNat) (kindN s[f].toNat) _ rfl).mono ?_
        rintro e w' ⟨rfl, rfl⟩
        go_wp2
        exact bodyPost_ret (results_cell_row Tryz.results82 _ _ w.heap.size 57 #[.int .i64 0, .int .i64 0, .int .i64 0] (0, 0) _ (by simp) (HNEW.out _ _ _) Tryz.underlying57 rfl (by rw [Tryz.sizeSpan]; rfl)) rfl ⟨by rw [HF.out]; rfl, HBX.out _⟩
    · have HGD := hide (show (decide (0 < i) && (kindN (bt s (i - 1)) == K)) = false by simp [hi0])
      have hip : decide ((0 : Int) < (i : Int)) = false := by simp; omega
      go_enter Tryz.func82, Tryz.ntmps82
      go_wp2_with fail
      refine (HKD.out (s[i].toNat) (K) _ HK.out).mono ?_
      rintro e w' ⟨rfl, rfl⟩
      go_wp2
      go_loop [6] (fun o => ∃ u : Nat, i ≤ u ∧ u ≤ s.size ∧ o = .int .i64 u ∧ fwdF (fun j => kindN (bt s j) == K) s.size (s.size - i) i = fwdF (fun j => kindN (bt s j) == K) s.size (s.size - u) u) (fun o => s.size - (intOf o).toNat)
      case atStart => exact ⟨i, Nat.le_refl _, by omega, rfl, rfl⟩
      case round =>
        obtain ⟨u, hu1, hu2, rfl, hfw⟩ := hrel
        have HFW := hide hfw
        clear hfw
        by_cases hul : u < s.size
        · have hui : (u : Int) < (s.size : Int) := by omega
          have HBU := hide (bt_get s u hul)
          cases hku : ((kindN s[u].toNat : Int) == (K : Int))
          · have hno := hide (show (fun j => kindN (bt s j) == K) u = false by
              have : (kindN s[u].toNat == K) = false := by simpa using (show ¬ kindN s[u].toNat = K by have := hku; simp at this; omega)
              simp only [HBU.out, this])
            have HU := hide (show fwdF (fun j => kindN (bt s j) == K) s.size (s.size - i) i = u by rw [HFW.out]; exact fwdF_no hno.out)
            cases hk9 : ((K : Int) == 97)
            · have hk9' : (K == 97) = false := by simpa using (show ¬ K = 97 by have := hk9; simp at this; omega)
              have HF := hide (show spanF s i = ⟨2, i, u⟩ by unfold spanF; rw [HB.out, e1, e2, HK.out, hk0', HGD.out, hk9', HU.out]; rfl)
              go_wp2_with fail
              refine (HKD.out (s[u].toNat) (kindN s[u].toNat) _ rfl).mono ?_
              rintro e w' ⟨rfl, rfl⟩
              go_wp2
              exact bodyPost_ret (results_cell_row Tryz.results82 _ _ w.heap.size 57 #[.int .i64 2, .int .i64 i, .int .i64 u] (0, 0) _ (by simp) (HNEW.out _ _ _) Tryz.underlying57 rfl (by rw [Tryz.sizeSpan]; rfl)) rfl ⟨by rw [HF.out]; rfl, HBX.out _⟩
            · have hk9' : (K == 97) = true := by simpa using (show K = 97 by have := hk9; simp at this; omega)
              have HF := hide (show spanF s i = ⟨1, i, u⟩ by unfold spanF; rw [HB.out, e1, e2, HK.out, hk0', HGD.out, hk9', HU.out]; rfl)
              go_wp2_with fail
              refine (HKD.out (s[u].toNat) (kindN s[u].toNat) _ rfl).mono ?_
              rintro e w' ⟨rfl, rfl⟩
              go_wp2
              exact bodyPost_ret (results_cell_row Tryz.results82 _ _ w.heap.size 57 #[.int .i64 1, .int .i64 i, .int .i64 u] (0, 0) _ (by simp) (HNEW.out _ _ _) Tryz.underlying57 rfl (by rw [Tryz.sizeSpan]; rfl)) rfl ⟨by rw [HF.out]; rfl, HBX.out _⟩
          · have hys := hide (show (fun j => kindN (bt s j) == K) u = true by
              have : (kindN s[u].toNat == K) = true := by simpa using (show kindN s[u].toNat = K by have := hku; simp at this; omega)
              simp only [HBU.out, this])
            have HU := hide (show fwdF (fun j => kindN (bt s j) == K) s.size (s.size - i) i = fwdF (fun j => kindN (bt s j) == K) s.size (s.size - (u + 1)) (u + 1) by rw [HFW.out]; exact fwdF_yes hul hys.out)
            go_wp2_with fail
            refine (HKD.out (s[u].toNat) (kindN s[u].toNat) _ rfl).mono ?_
            rintro e w' ⟨rfl, rfl⟩
            go_wp2
            go_round
            case rel => exact ⟨u + 1, by omega, by omega, by go_num, HU.out⟩
            case measure => simp [intOf]; omega
        · have HUE := hide (show u = s.size by omega)
          have hud : decide ((u : Int) < (s.size : Int)) = false := by simp; omega
          have HU := hide (show fwdF (fun j => kindN (bt s j) == K) s.size (s.size - i) i = u by rw [HFW.out]; exact (by rw [HUE.out]; exact fwdF_end))
          cases hk9 : ((K : Int) == 97)
          · have hk9' : (K == 97) = false := by simpa using (show ¬ K = 97 by have := hk9; simp at this; omega)
            have HF := hide (show spanF s i = ⟨2, i, u⟩ by unfold spanF; rw [HB.out, e1, e2, HK.out, hk0', HGD.out, hk9', HU.out]; rfl)
            go_wp2
            exact bodyPost_ret (results_cell_row Tryz.results82 _ _ w.heap.size 57 #[.int .i64 2, .int .i64 i, .int .i64 u] (0, 0) _ (by simp) (HNEW.out _ _ _) Tryz.underlying57 rfl (by rw [Tryz.sizeSpan]; rfl)) rfl ⟨by rw [HF.out]; rfl, HBX.out _⟩
          · have hk9' : (K == 97) = true := by simpa using (show K = 97 by have := hk9; simp at this; omega)
            have HF := hide (show spanF s i = ⟨1, i, u⟩ by unfold spanF; rw [HB.out, e1, e2, HK.out, hk0', HGD.out, hk9', HU.out]; rfl)
            go_wp2
            exact bodyPost_ret (results_cell_row Tryz.results82 _ _ w.heap.size 57 #[.int .i64 1, .int .i64 i, .int .i64 u] (0, 0) _ (by simp) (HNEW.out _ _ _) Tryz.underlying57 rfl (by rw [Tryz.sizeSpan]; rfl)) rfl ⟨by rw [HF.out]; rfl, HBX.out _⟩
  · have hk0' : (K == 0) = true := by simpa using (show K = 0 by have := hk0; simp at this; omega)
    have HF := hide (show spanF s i = ⟨4, i, i + 1⟩ by unfold spanF; rw [HB.out, e1, e2, HK.out, hk0']; rfl)
    clear e1 e2 hk0'
    go_enter Tryz.func82, Tryz.ntmps82
    go_wp2_with fail
    refine (HKD.out (s[i].toNat) K _ HK.out).mono ?_
    rintro e w' ⟨rfl, rfl⟩
    go_wp2
    exact bodyPost_ret (results_cell_row Tryz.results82 _ _ w.heap.size 57 #[.int .i64 4, .int .i64 i, .int .i64 ((i : Int) + 1)] (0, 0) _ (by simp) (HNEW.out _ _ _) Tryz.underlying57 rfl (by rw [Tryz.sizeSpan]; rfl)) rfl ⟨by rw [HF.out]; rfl, HBX.out _⟩
end Go.Proofs.YthgcpjdlcooncaaGreat
namespace Go.Proofs.YthgcpjdlcooncaaGreat
open Go.RowKit Veil
theorem Tryz.infoSpan : (Tryz.prog.info? 57).map (fun i => (i.zero, i.size, i.bytes)) = some (some (.agg #[.int .i64 0, .int .i64 0, .int .i64 0]), 3, 24) := by kernel_rfl
def spansTo (s : ByteArray) (k : Nat) : List Sp := ((List.range k).map (spanF s)).filter fun x => !(x.kind == 0)
theorem spansTo_yes {s : ByteArray} {k : Nat} (h : ((spanF s k).kind == 0) = false) : spansTo s (k + 1) = spansTo s k ++ [spanF s k] := by
  unfold spansTo; rw [List.range_succ, List.map_append, List.filter_append]; simp [h]
theorem spansTo_no {s : ByteArray} {k : Nat} (h : ((spanF s k).kind == 0) = true) : spansTo s (k + 1) = spansTo s k := by
  unfold spansTo; rw [List.range_succ, List.map_append, List.filter_append]; simp [h]
theorem spansTo_length (s : ByteArray) (k : Nat) : (spansTo s k).length ≤ k := by
  unfold spansTo
  have := List.length_filter_le (fun x : Sp => !(x.kind == 0)) ((List.range k).map (spanF s))
  simpa using this
set_option maxRecDepth 100000 in
set_option maxHeartbeats 8000000 in
theorem rspans_no (c : Cfg) (v : CfgV) (rows : List (RC × Value)) (rv av : Value) (g : Nat) (level : Int) (w : World) (hdoc : RDocR w g c v rows rv av) (hlv : okL c.labels level = false) :
    Calls Tryz.prog 42 #[.pointer (some ⟨g, 0, none⟩), .int .i64 level] w fun e w' => e = .returned (.tuple #[.slice none 0 0, .int .i64 6]) ∧ Below w.heap.size w w' := by
  have HVW := hide (rview_no c v rows rv av g level w hdoc hlv)
  clear hdoc hlv
  go_enter Tryz.func42, Tryz.ntmps42
  go_wp2_with fail
  refine (HVW.out).mono ?_
  rintro e w1 ⟨rfl, hb1⟩
  go_wp2
  go_ret2
  exact ⟨rfl, hb1⟩
theorem view_of {c : Cfg} {rows : List (RC × Value)} (hok : RDocOk c rows) (level : Nat) : (∀ j, plB (placesR c (rows.map (·.1)) level) j < 256) ∧ (placesR c (rows.map (·.1)) level).length ≤ 1000000 := by
  obtain ⟨h1, h2⟩ := places_of hok level
  exact ⟨plB_ok h2, Nat.le_trans h1 hok.length⟩
theorem viewT_size (P : List Pl) : (viewT P).size = P.length := by unfold viewT; rw [textF_size]; omega
set_option maxRecDepth 100000 in
set_option maxHeartbeats 8000000 in
theorem rspans_ok (c : Cfg) (v : CfgV) (rows : List (RC × Value)) (rv av : Value) (g level : Nat) (w : World) (hdoc : RDocR w g c v rows rv av) (hok : RDocOk c rows) (hlv : okL c.labels level = true) :
    Calls Tryz.prog 42 #[.pointer (some ⟨g, 0, none⟩), .int .i64 level] w fun e w' => ∃ vl, e = .returned (.tuple #[vl, .int .i64 0]) ∧ OwnL 57 3 spV w' w.heap.size vl (spansTo (viewT (placesR c (rows.map (·.1)) level)) (viewT (placesR c (rows.map (·.1)) level)).size) ∧ Below w.heap.size w w' := by
  obtain ⟨hv1, hv2⟩ := view_of hok level
  have HVW := hide (rview_ok c v rows rv av g level w hdoc hok hlv hv1 hv2)
  have hsz := viewT_size (placesR c (rows.map (·.1)) level)
  generalize viewT (placesR c (rows.map (·.1)) level) = s at *
  have hs : s.size ≤ 1000000 := by omega
  have HSP := hide (fun (i : Nat) (w' : World) (hi : i < s.size) => rspan_any s i w' hi (by omega))
  clear hdoc hlv hok hv1 hv2 hsz
  go_enter Tryz.func42, Tryz.ntmps42
  go_wp2_with fail
  refine (HVW.out).mono ?_
  rintro e w1 ⟨rfl, hb1⟩
  go_wp2
  go_loopw [8, 9] (fun vl i wr => ∃ k : Nat, k ≤ s.size ∧ i = .int .i64 k ∧ OwnL 57 3 spV wr w.heap.size vl (spansTo s k) ∧ Below w.heap.size w wr) (fun _ i _ => s.size - (intOf i).toNat)
  case atStart => exact ⟨0, Nat.zero_le _, rfl, OwnL.nil _ _ _ _ _, hb1⟩
  case round =>
    clear hb1
    obtain ⟨wo, rfl⟩ : ∃ x, x = wr := ⟨_, rfl⟩
    obtain ⟨k, hk, rfl, hvl, hbel⟩ := hrel
    have HVL := hide hvl
    clear hvl
    by_cases hlt : k < s.size
    · have hki : (k : Int) < (s.size : Int) := by omega
      have HS1 := hide (HSP.out k wo hlt)
      have HYES := hide (fun h => spansTo_yes (s := s) (k := k) h)
      have HNO := hide (fun h => spansTo_no (s := s) (k := k) h)
      have hln := spansTo_length s k
      generalize hx : spanF s k = x at *
      obtain ⟨x1, x2, x3⟩ := x
      unfold spV at HS1
      simp only at HS1
      go_wp2_with fail
      refine (HS1.out).mono ?_
      rintro e w2 ⟨rfl, hb2⟩
      have hbel2 := hbel.trans (hb2.mono hbel.size)
      have hbB : Below w2.heap.size w2 (w2.alloc (.cells #[.int .i64 x1, .int .i64 x2, .int .i64 x3] 57)) := below_box w2 _
      have hbelB : Below w.heap.size w (w2.alloc (.cells #[.int .i64 x1, .int .i64 x2, .int .i64 x3] 57)) := hbel2.alloc hbel2.size _
      have HVB := hide ((HVL.out.below hb2).below hbB)
      cases hx1 : ((x1 : Int) == 0)
      · have HZ := hide (HYES.out (by simpa using (show ¬ x1 = 0 by have := hx1; simp at this; omega)))
        have hx1' : ((x1 : Int) != 0) = true := by simpa using hx1
        have hbC : Below (w2.alloc (.cells #[.int .i64 x1, .int .i64 x2, .int .i64 x3] 57)).heap.size (w2.alloc (.cells #[.int .i64 x1, .int .i64 x2, .int .i64 x3] 57)) ((w2.alloc (.cells #[.int .i64 x1, .int .i64 x2, .int .i64 x3] 57)).alloc (.cells #[.int .i64 x1, .int .i64 x2, .int .i64 x3] 57)) := below_box _ _
        have hbelC := hbelB.trans (hbC.mono hbelB.size)
        have HVC := hide (HVB.out.below hbC)
        have HNC := hide (heap_alloc2_new w2 (.cells #[.int .i64 x1, .int .i64 x2, .int .i64 x3] 57) (.cells #[.int .i64 x1, .int .i64 x2, .int .i64 x3] 57))
        clear hx
        go_wp2_with (at_builtin; refine wpList_push rfl (.tmp 32) (.tmp 34) 55 rfl (.agg #[.int .i64 0, .int .i64 0, .int .i64 0]) 24 Tryz.underlying55 Tryz.infoSpan rfl (by decide) rfl HVC.out (w2.heap.size + 1) 1 ⟨x1, x2, x3⟩ rfl 57 (0, 0) HNC.out rfl (by intro u hu; simp [spV] at hu; rcases hu with rfl | rfl | rfl <;> rfl) (by omega) (by decide) hbelC.size (w2.heap.size + 2) (by simp) ?_; intro g6 cap6 w6 hown6 hgrow6 hat6 hlt6)
        have hb6 := hbelC.trans (below_of_grown hgrow6 (fun b hb => (HVC.out.lt hb).1) hbelC.size)
        go_roundw
        case rel => exact ⟨k + 1, by omega, by go_num, by rw [HZ.out]; exact hown6, hb6⟩
        case measure => simp [intOf]; omega
      · have HZ := hide (HNO.out (by simpa using (show x1 = 0 by have := hx1; simp at this; omega)))
        have hx1' : ((x1 : Int) != 0) = false := by simpa using hx1
        clear hx
        go_wp2
        go_roundw
        case rel => exact ⟨k + 1, by omega, by go_num, by rw [HZ.out]; exact HVB.out, hbelB⟩
        case measure => simp [intOf]; omega
    · obtain rfl : k = s.size := by omega
      have hkc : decide ((s.size : Int) < (s.size : Int)) = false := by simp
      obtain ⟨ao, cap, hvv⟩ := HVL.out.shape
      subst hvv
      go_wp2
      go_ret2
      exact ⟨_, rfl, HVL.out, hbel⟩
end Go.Proofs.YthgcpjdlcooncaaGreat
