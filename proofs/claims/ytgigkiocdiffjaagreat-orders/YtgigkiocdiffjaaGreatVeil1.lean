/- order.Order's Join, Meet; veil.Check, orderOf. -/
import Derived.Test.YtgigkiocdiffjaaGreatConfig3
namespace Go.Proofs.YtgigkiocdiffjaaGreat
open Go.RowKit Veil
set_option maxRecDepth 100000 in
set_option maxHeartbeats 4000000 in
theorem oJoin_any (n : Nat) (f : Nat → Nat → Bool) (a b : Int) (w : World) (hn : n ≤ 6) :
    Calls Tryz.prog 130 #[.agg (ordC n f), .int .i64 a, .int .i64 b] w fun e w' => e = .returned (.int .i64 (posI (leastO n f a b))) ∧ Below w.heap.size w w' := by
  have i0 := (ord_new w n f).is
  have a0 := (ord_new w n f).at
  have hb0 := below_box w (.cells (ordC n f) 105)
  go_enter Tryz.func130, Tryz.ntmps130
  go_wp2_with fail
  refine (least_any n f a b _ hn).mono ?_
  rintro e w1 ⟨rfl, hb1⟩
  have hbel1 := hb0.trans (hb1.mono (by simp))
  clear hb1 i0 a0
  go_wp2
  go_ret
  exact ⟨rfl, hbel1⟩
set_option maxRecDepth 100000 in
set_option maxHeartbeats 4000000 in
theorem oMeet_any (n : Nat) (f : Nat → Nat → Bool) (a b : Int) (w : World) (hn : n ≤ 6) :
    Calls Tryz.prog 131 #[.agg (ordC n f), .int .i64 a, .int .i64 b] w fun e w' => e = .returned (.int .i64 (posI (leastO n (turnF n f n 0) a b))) ∧ Below w.heap.size w w' := by
  have i0 := (ord_new w n f).is
  have a0 := (ord_new w n f).at
  have hb0 := below_box w (.cells (ordC n f) 105)
  go_enter Tryz.func131, Tryz.ntmps131
  go_wp2_with fail
  refine (turn_any n f _ hn).mono ?_
  rintro e w1 ⟨rfl, hb1⟩
  have hbel1 := hb0.trans (hb1.mono (by simp))
  have HQ := hide (fun w' => oJoin_any n (turnF n f n 0) a b w' hn)
  generalize hT : turnF n f n 0 = T at *
  have HN := hide (Go.heap_alloc_new w1 (.cells (ordC 0 noF) 105))
  have i2 : rowIs (w1.alloc (.cells (ordC 0 noF) 105)) w1.heap.size 37 := ⟨_, _, HN.out, ordC_size _ _⟩
  have HO3 : Hid (OrdAt ((w1.alloc (.cells (ordC 0 noF) 105)).setRow w1.heap.size (ordC n T)) w1.heap.size n T) := setRow_heap _ _ _ (ordC n T) _ _ HN.out
  have i3 := HO3.out.is
  have a3 := HO3.out.at
  have hbel3 : Below w.heap.size w ((w1.alloc (.cells (ordC 0 noF) 105)).setRow w1.heap.size (ordC n T)) := below_setRow (hbel1.alloc hbel1.size _) hbel1.size _
  clear hb1 i0 a0
  go_wp2_with (refine wpList_alloc_ord rfl rfl ?_)
  refine (HQ.out _).mono ?_
  rintro e w4 ⟨rfl, hb4⟩
  have hbel4 := hbel3.trans (hb4.mono hbel3.size)
  have HT := hide hT
  clear hb4 i3 a3 i2 hT
  go_wp2
  go_ret
  exact ⟨by rw [HT.out]; rfl, hbel4⟩
set_option maxRecDepth 100000 in
set_option maxHeartbeats 4000000 in
theorem vCheck_any (c : Cfg) (v : CfgV) (w : World) (hok : CfgOk c) (hat : CfgAt w c v) (hcap : c.rules.length ≤ v.rc) :
    Calls Tryz.prog 83 #[.agg (cfgCells c v)] w fun e w' => ∃ code, e = .returned (.int .i64 code) ∧ CheckIs c code ∧ Below w.heap.size w w' := by
  have HQ := hide (fun w' (hb : Below w.heap.size w w') => cCheck_any c v w' hok (hat.below hb) hcap)
  have HB0 := hide (below_box w (.cells (cfgCells c v) 31))
  clear hok hat hcap
  unfold cfgCells at *
  go_enter Tryz.func83, Tryz.ntmps83
  go_wp2_with fail
  refine (HQ.out _ HB0.out).mono ?_
  rintro e w1 ⟨code, L, f, rfl, ⟨hc, _⟩, hb1⟩
  have hbel1 := HB0.out.trans (hb1.mono (by simp))
  have HC := hide hc
  have HN := hide (Go.heap_alloc_new w1 (.cells (ordC 0 noF) 105))
  have i2 : rowIs (w1.alloc (.cells (ordC 0 noF) 105)) w1.heap.size 37 := ⟨_, _, HN.out, ordC_size _ _⟩
  have hbel3 : Below w.heap.size w ((w1.alloc (.cells (ordC 0 noF) 105)).setRow w1.heap.size (ordC L f)) := below_setRow (hbel1.alloc hbel1.size _) hbel1.size _
  clear hb1 HB0 hc
  go_wp2_with (refine wpList_alloc_ord rfl rfl ?_)
  go_ret
  exact ⟨code, rfl, HC.out, hbel3⟩
/-- What a call with two labels answers: z with an error, else x. -/
def TwoIs {α : Type} (c : Cfg) (a b : Int) (z x r : α) (code : Int) : Prop := ∃ k, CheckIs c k ∧ (k ≠ 0 → r = z ∧ code = k) ∧ (k = 0 → (okL c.labels a && okL c.labels b) = false → r = z ∧ code = 6) ∧ (k = 0 → (okL c.labels a && okL c.labels b) = true → r = x ∧ code = 0)
theorem TwoIs.same {α : Type} {c : Cfg} {a b : Int} {z x r r' : α} {code code' : Int} (h : TwoIs c a b z x r code) (h' : TwoIs c a b z x r' code') : r = r' ∧ code = code' := by
  obtain ⟨k, h1, h2, h3, h4⟩ := h
  obtain ⟨k', h1', h2', h3', h4'⟩ := h'
  obtain rfl := h1.same h1'
  by_cases hk : k = 0
  · cases ho : (okL c.labels a && okL c.labels b)
    · obtain ⟨e1, e2⟩ := h3 hk ho
      obtain ⟨e3, e4⟩ := h3' hk ho
      exact ⟨e1.trans e3.symm, e2.trans e4.symm⟩
    · obtain ⟨e1, e2⟩ := h4 hk ho
      obtain ⟨e3, e4⟩ := h4' hk ho
      exact ⟨e1.trans e3.symm, e2.trans e4.symm⟩
  · obtain ⟨e1, e2⟩ := h2 hk
    obtain ⟨e3, e4⟩ := h2' hk
    exact ⟨e1.trans e3.symm, e2.trans e4.symm⟩
/-- No error: all that follows. -/
structure TwoOk (c : Cfg) (a b : Int) (k : Int) : Prop where
  check : CheckIs c 0
  zero : k = 0
  one : okL c.labels a = true
  two : okL c.labels b = true
structure TwoNo (c : Cfg) (a b : Int) (k : Int) : Prop where
  ne : k ≠ 0
  is : ∃ k0, CheckIs c k0 ∧ (k0 ≠ 0 → k = k0) ∧ (k0 = 0 → (okL c.labels a && okL c.labels b) = false ∧ k = 6)
theorem TwoNo.two {α : Type} {c : Cfg} {a b k : Int} (h : TwoNo c a b k) (z x : α) : TwoIs c a b z x z k := by
  obtain ⟨k0, h1, h2, h3⟩ := h.is
  exact ⟨k0, h1, fun hk => ⟨rfl, h2 hk⟩, fun hk _ => ⟨rfl, (h3 hk).2⟩, fun hk ho => by rw [(h3 hk).1] at ho; simp at ho⟩
theorem TwoOk.two' {α : Type} {c : Cfg} {a b k : Int} (h : TwoOk c a b k) (z x : α) : TwoIs c a b z x x 0 :=
  ⟨0, h.check, fun hk => absurd rfl hk, fun _ ho => by rw [h.one, h.two] at ho; simp at ho, fun _ _ => ⟨rfl, rfl⟩⟩
set_option maxRecDepth 100000 in
set_option maxHeartbeats 8000000 in
theorem orderOf_any (c : Cfg) (v : CfgV) (a b : Int) (w : World) (hok : CfgOk c) (hat : CfgAt w c v) (hcap : c.rules.length ≤ v.rc) :
    Calls Tryz.prog 128 #[.agg (cfgCells c v), .int .i64 a, .int .i64 b] w fun e w' => ∃ code L f, e = .returned (.tuple #[.agg (ordC L f), .int .i64 code]) ∧ (TwoNo c a b code ∨ (TwoOk c a b code ∧ L = c.n ∧ f = tT c)) ∧ Below w.heap.size w w' := by
  have HQ := hide (fun w' (hb : Below w.heap.size w w') => cCheck_any c v w' hok (hat.below hb) hcap)
  have HB0 := hide (below_box w (.cells (cfgCells c v) 31))
  have HB1 := hide ((HB0.out).alloc (by simp) (.cells (ordC 0 noF) 105))
  have HN1 := hide (heap_alloc2_new w (.cells (cfgCells c v) 31) (.cells (ordC 0 noF) 105))
  clear hok hat hcap
  unfold cfgCells at *
  go_enter Tryz.func128, Tryz.ntmps128
  go_wp2_with (refine wpList_alloc_ord rfl rfl ?_)
  refine (HQ.out _ HB1.out).mono ?_
  rintro e w1 ⟨code, L, f, rfl, ⟨hc, hc0⟩, hb1⟩
  have hbel1 := HB1.out.trans (hb1.mono (by simp; omega))
  have HC := hide hc
  have HC0 := hide hc0
  have HR1 : Hid (w1.heap[w.heap.size + 1]? = some (.cells (ordC 0 noF) 105 (0, 0))) := Below.row hb1 HN1.out (lt_of_row HN1.out)
  have HN := hide (Go.heap_alloc_new w1 (.cells (ordC 0 noF) 105))
  have hlt1 := lt_of_row HR1.out
  have i2 : rowIs (w1.alloc (.cells (ordC 0 noF) 105)) w1.heap.size 37 := ⟨_, _, HN.out, ordC_size _ _⟩
  have HO3 : Hid (OrdAt ((w1.alloc (.cells (ordC 0 noF) 105)).setRow w1.heap.size (ordC L f)) w1.heap.size L f) := setRow_heap _ _ _ (ordC L f) _ _ HN.out
  have HR3 : Hid (((w1.alloc (.cells (ordC 0 noF) 105)).setRow w1.heap.size (ordC L f)).heap[w.heap.size + 1]? = some (.cells (ordC 0 noF) 105 (0, 0))) := (setRow_other _ _ _ _ (Nat.ne_of_lt hlt1)).trans (row_alloc' HR1.out)
  have hbel3 : Below w.heap.size w ((w1.alloc (.cells (ordC 0 noF) 105)).setRow w1.heap.size (ordC L f)) := below_setRow (hbel1.alloc hbel1.size _) hbel1.size _
  have i3 := HO3.out.is
  have a3 := HO3.out.at
  have j3 : rowIs ((w1.alloc (.cells (ordC 0 noF) 105)).setRow w1.heap.size (ordC L f)) (w.heap.size + 1) 37 := ⟨_, _, HR3.out, ordC_size _ _⟩
  clear hb1 HB0 HB1 HN1 HR1 HQ hc hc0
  cases hcode : (code == 0)
  · have hne : Hid (code ≠ 0) := (show code ≠ 0 by simpa using hcode)
    go_wp2_with (first | (refine wpList_alloc_ord rfl rfl ?_) | (refine wpList_build_zero rfl rfl ?_))
    exact bodyPost_ret (results_cell_tmp Tryz.results128 _ _ (w.heap.size + 1) _ (ordC 0 noF) (0, 0) _ (by simp) (setRow_heap _ _ _ _ _ _ HR3.out) Tryz.underlying105 rfl (by rw [Tryz.sizeOrder, ordC_size])) rfl ⟨code, 0, noF, rfl, Or.inl ⟨hne.out, code, HC.out, fun _ => rfl, fun h => absurd h hne.out⟩, below_setRow hbel3 (by omega) _⟩
  obtain rfl : code = 0 := by simpa using hcode
  have HHA : Hid (∀ (x : Int) (w' : World), Calls Tryz.prog 54 #[.agg (ordC L f), .int .i64 x] w' fun e w'' => e = .returned (.bool (okL c.labels x)) ∧ Below w'.heap.size w' w'') := fun x w' => by
    have := has_any L f x w'
    obtain ⟨hl, _, _⟩ := HC.out.right rfl
    obtain ⟨_, _, _, _, hn, _, _⟩ := labels_of hl
    have hL : c.labels = L := by rw [(HC0.out rfl).1, hn]
    rw [hL]
    exact this
  clear hcode
  generalize hLL : c.labels = LL at *
  cases g1 : okL LL a
  · have G1 := hide g1
    clear g1
    go_wp2_with (refine wpList_alloc_ord rfl rfl ?_)
    refine (HHA.out a _).mono ?_
    rintro e w4 ⟨rfl, hb4⟩
    rw [G1.out]
    have hbel4 := hbel3.trans (hb4.mono hbel3.size)
    have HR4 : Hid (w4.heap[w.heap.size + 1]? = some (.cells (ordC 0 noF) 105 (0, 0))) := Below.row hb4 HR3.out (lt_of_row HR3.out)
    have j4 : rowIs w4 (w.heap.size + 1) 37 := ⟨_, _, HR4.out, ordC_size _ _⟩
    clear hb4 i3 a3 j3 i2
    go_wp2_with (refine wpList_build_zero rfl rfl ?_)
    exact bodyPost_ret (results_cell_tmp Tryz.results128 _ _ (w.heap.size + 1) _ (ordC 0 noF) (0, 0) _ (by simp) (setRow_heap _ _ _ _ _ _ HR4.out) Tryz.underlying105 rfl (by rw [Tryz.sizeOrder, ordC_size])) rfl ⟨6, 0, noF, rfl, Or.inl ⟨by decide, 0, HC.out, fun h => absurd rfl h, fun _ => ⟨by rw [hLL, G1.out]; rfl, rfl⟩⟩, below_setRow hbel4 (by omega) _⟩
  have G1 := hide g1
  clear g1
  go_wp2_with (refine wpList_alloc_ord rfl rfl ?_)
  refine (HHA.out a _).mono ?_
  rintro e w4 ⟨rfl, hb4⟩
  rw [G1.out]
  have hbel4 := hbel3.trans (hb4.mono hbel3.size)
  have HR4 : Hid (w4.heap[w.heap.size + 1]? = some (.cells (ordC 0 noF) 105 (0, 0))) := Below.row hb4 HR3.out (lt_of_row HR3.out)
  have HO4 := hide (HO3.out.below hb4 HO3.out.lt)
  have i4 := HO4.out.is
  have a4 := HO4.out.at
  have j4 : rowIs w4 (w.heap.size + 1) 37 := ⟨_, _, HR4.out, ordC_size _ _⟩
  clear hb4 i3 a3 j3 i2
  go_wp2_with fail
  refine (HHA.out b _).mono ?_
  rintro e w5 ⟨rfl, hb5⟩
  have hbel5 := hbel4.trans (hb5.mono hbel4.size)
  have HR5 : Hid (w5.heap[w.heap.size + 1]? = some (.cells (ordC 0 noF) 105 (0, 0))) := Below.row hb5 HR4.out (lt_of_row HR4.out)
  have HO5 := hide (HO4.out.below hb5 HO4.out.lt)
  have i5 := HO5.out.is
  have a5 := HO5.out.at
  have j5 : rowIs w5 (w.heap.size + 1) 37 := ⟨_, _, HR5.out, ordC_size _ _⟩
  clear hb5 i4 a4 j4
  cases g2 : okL LL b
  · have G2 := hide g2
    clear g2
    go_wp2_with (refine wpList_build_zero rfl rfl ?_)
    exact bodyPost_ret (results_cell_tmp Tryz.results128 _ _ (w.heap.size + 1) _ (ordC 0 noF) (0, 0) _ (by simp) (setRow_heap _ _ _ _ _ _ HR5.out) Tryz.underlying105 rfl (by rw [Tryz.sizeOrder, ordC_size])) rfl ⟨6, 0, noF, rfl, Or.inl ⟨by decide, 0, HC.out, fun h => absurd rfl h, fun _ => ⟨by rw [hLL, G2.out]; simp, rfl⟩⟩, below_setRow hbel5 (by omega) _⟩
  · have G2 := hide g2
    clear g2
    go_wp2
    exact bodyPost_ret (results_cell_tmp Tryz.results128 _ _ (w.heap.size + 1) _ (ordC L f) (0, 0) _ (by simp) (setRow_heap _ _ _ _ _ _ HR5.out) Tryz.underlying105 rfl (by rw [Tryz.sizeOrder, ordC_size])) rfl ⟨0, L, f, rfl, Or.inr ⟨⟨HC.out, rfl, by rw [hLL]; exact G1.out, by rw [hLL]; exact G2.out⟩, HC0.out (by simp)⟩, below_setRow hbel5 (by omega) _⟩
end Go.Proofs.YtgigkiocdiffjaaGreat
