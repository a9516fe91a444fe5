/- turn, isLattice, areLabels. -/
import Derived.Test.YtgigkiocdiffjaaGreatOrder3
namespace Go.Proofs.YtgigkiocdiffjaaGreat
open Go.RowKit Veil
/-- Turned, of what was turned so far. -/
def turnF (n : Nat) (f : Nat → Nat → Bool) (a b x y : Nat) : Bool := decide ((x < a ∨ (x = a ∧ y < b)) ∧ y < n) && f y x
theorem turnF_zero (n : Nat) (f : Nat → Nat → Bool) (x y : Nat) : turnF n f 0 0 x y = false := by simp [turnF]
theorem turnF_row (n : Nat) (f : Nat → Nat → Bool) (a x y : Nat) : turnF n f (a + 1) 0 x y = turnF n f a n x y := by
  unfold turnF
  have : decide ((x < a + 1 ∨ (x = a + 1 ∧ y < 0)) ∧ y < n) = decide ((x < a ∨ (x = a ∧ y < n)) ∧ y < n) := by rw [decide_eq_decide]; omega
  rw [this]
theorem turnF_succ (n : Nat) (f : Nat → Nat → Bool) (a b : Nat) (hb : b < n) (x y : Nat) : turnF n f a (b + 1) x y = if x = a ∧ y = b then f b a else turnF n f a b x y := by
  unfold turnF
  by_cases h : x = a ∧ y = b
  · obtain ⟨rfl, rfl⟩ := h
    rw [if_pos ⟨rfl, rfl⟩, decide_eq_true (by omega)]; rfl
  · rw [if_neg h]
    have : decide ((x < a ∨ (x = a ∧ y < b + 1)) ∧ y < n) = decide ((x < a ∨ (x = a ∧ y < b)) ∧ y < n) := by rw [decide_eq_decide]; omega
    rw [this]
theorem alloc3_ord (w : World) (o1 o2 : Obj) (L : Int) (f : Nat → Nat → Bool) : rowIs (((w.alloc o1).alloc o2).alloc (.cells (ordC L f) 105)) (w.heap.size + 2) 37 := ⟨_, _, alloc3_2 _ _ _ _, ordC_size _ _⟩
set_option maxRecDepth 100000 in
set_option maxHeartbeats 4000000 in
theorem turn_any (n : Nat) (f : Nat → Nat → Bool) (w : World) (hn : n ≤ 6) :
    Calls Tryz.prog 157 #[.agg (ordC n f)] w fun e w' => e = .returned (.agg (ordC n (turnF n f n 0))) ∧ Below w.heap.size w w' := by
  have z0 : ∀ o, ((w.alloc (.cells (ordC n f) 105)).alloc o).cell? ⟨w.heap.size, 0, none⟩ = some (.int .i64 n) := fun o => ((ord_new w n f).below (below_box _ o) (by simp)).zero
  have r1 := fun (o1 o2 : Obj) (L : Int) (g : Nat → Nat → Bool) => alloc3_ord w o1 o2 L g
  go_enter Tryz.func157, Tryz.ntmps157
  go_wp2_with (first | (refine wpList_alloc_ord rfl rfl ?_) | (refine wpList_build_ord rfl (.tmp 7) n rfl rfl ?_))
  go_loopw [4] (fun i wr => ∃ a : Nat, a ≤ n ∧ i = .int .i64 a ∧ OrdAt wr (w.heap.size + 2) n (turnF n f a 0) ∧ rowIs wr (w.heap.size + 1) 37 ∧ OrdAt wr w.heap.size n f ∧ Below w.heap.size w wr) (fun i _ => n - (intOf i).toNat)
  case atStart =>
    refine ⟨0, Nat.zero_le _, rfl, ?_, ?_, ?_, below_setRow (((below_box _ _).alloc (by simp) _).alloc (by simp; omega) _) (by omega) _⟩
    · have := setRow_heap _ _ _ (ordC n noF) _ _ (alloc3_2 w (.cells (ordC n f) 105) (.cells (ordC 0 noF) 105) (.cells (ordC 0 noF) 105))
      exact OrdAt.same (f := noF) this (fun i j _ _ => turnF_zero _ _ _ _)
    · exact ⟨ordC 0 noF, 105, (setRow_other _ _ _ _ (by omega)).trans (alloc3_1 _ _ _ _), ordC_size _ _⟩
    · exact (setRow_other _ _ _ _ (by omega)).trans (alloc3_0 _ _ _ _)
  case round =>
    clear z0 r1
    obtain ⟨a, ha, rfl, hT, hres, hO, hbel⟩ := hrel
    have HT := hide hT
    have HR := hide hres
    have HO := hide hO
    have z0 := hO.zero
    by_cases hlt : a < n
    · clear hT hres hO
      go_wp2
      go_loopw [5] (fun i wr => ∃ b : Nat, b ≤ n ∧ i = .int .i64 b ∧ OrdAt wr (w.heap.size + 2) n (turnF n f a b) ∧ rowIs wr (w.heap.size + 1) 37 ∧ OrdAt wr w.heap.size n f ∧ Below w.heap.size w wr) (fun i _ => n - (intOf i).toNat)
      case atStart => exact ⟨0, Nat.zero_le _, rfl, HT.out, HR.out, HO.out, hbel⟩
      case round =>
        clear HT HR HO z0 hbel
        obtain ⟨b, hb, rfl, hT, hres, hO, hbel⟩ := hrel
        have HT := hide hT
        have HR := hide hres
        have HO := hide hO
        have z0 := hO.zero
        by_cases hbn : b < n
        · have c1 := hO.cell b a (by omega) (by omega)
          have c2 := hT.cell a b (by omega) (by omega)
          have f2 := hT.frozen (1 + a * 6 + b)
          have ha6 : (a : Int) < 6 := by omega
          have hb6 : (b : Int) < 6 := by omega
          have HS := hide (turnF_succ n f a b hbn)
          clear hT hres hO
          go_wp2_with fail
          go_region
          all_goals
            go_wp2
            go_roundw
            case rel =>
              have S1 : OrdAt (wr.drew.setCell ⟨w.heap.size + 2, 1 + a * 6 + b, none⟩ (.bool (f b a))) (w.heap.size + 2) n (turnF n f a (b + 1)) := OrdAt.store (f := turnF n f a b) HT.out (by omega) (by omega) (fun i j _ _ => HS.out i j)
              exact ⟨b + 1, by omega, by go_num, S1, HR.out.other (by omega), row_other HO.out (by omega), hbel.drew.setCell (by dsimp only; omega) _⟩
            case measure => simp [intOf]; omega
        · have HT2 : Hid (OrdAt wr (w.heap.size + 2) n (turnF n f (a + 1) 0)) := HT.out.same (fun i j _ _ => by rw [turnF_row, show b = n by omega])
          clear hT hres hO
          go_wp2
          go_roundw
          case rel => exact ⟨a + 1, by omega, by go_num, HT2.out, HR.out, HO.out, hbel⟩
          case measure => simp [intOf]; omega
    · have hke : a = n := by omega
      rw [hke] at hT
      have i0 := hT.is
      have a0 := hT.at
      clear hT hO hke
      go_wp2
      obtain ⟨cs, t', q1, q2⟩ := HR.out
      exact bodyPost_ret (results_cell_row Tryz.results157 _ _ (w.heap.size + 1) t' (ordC n (turnF n f n 0)) (0, 0) _ (by simp) (setRow_heap _ _ _ _ _ _ q1) Tryz.underlying105 rfl (by rw [Tryz.sizeOrder, ordC_size])) rfl ⟨rfl, below_setRow hbel (by omega) _⟩
def latO (n : Nat) (f : Nat → Nat → Bool) : Prop := joinsO n f ∧ joinsO n (turnF n f n 0)
set_option maxRecDepth 100000 in
set_option maxHeartbeats 4000000 in
theorem isLattice_any (n : Nat) (f : Nat → Nat → Bool) (w : World) (hn : n ≤ 6) :
    Calls Tryz.prog 146 #[.agg (ordC n f)] w fun e w' => RetB e (latO n f) ∧ Below w.heap.size w w' := by
  have HO := hide (ord_new w n f)
  have i0 := (ord_new w n f).is
  have a0 := (ord_new w n f).at
  go_enter Tryz.func146, Tryz.ntmps146
  go_wp2_with fail
  refine (turn_any n f _ hn).mono ?_
  rintro e w1 ⟨rfl, hb1⟩
  have HO1 := hide (HO.out.below hb1 (by simp))
  have hbel1 := (below_box w (.cells (ordC n f) 105)).trans (hb1.mono (by simp))
  have HN := hide (Go.heap_alloc_new w1 (.cells (ordC 0 noF) 105))
  have i1 : rowIs (w1.alloc (.cells (ordC 0 noF) 105)) w1.heap.size 37 := ⟨_, _, HN.out, ordC_size _ _⟩
  have HN2 := hide (setRow_heap _ _ _ (ordC n (turnF n f n 0)) _ _ HN.out)
  have HO2 : Hid (OrdAt ((w1.alloc (.cells (ordC 0 noF) 105)).setRow w1.heap.size (ordC n (turnF n f n 0))) w.heap.size n f) := (setRow_other _ _ _ _ (Nat.ne_of_lt HO1.out.lt)).trans (row_alloc' HO1.out)
  have i2 := HO2.out.is
  have a2 := HO2.out.at
  have hbel2 : Below w.heap.size w ((w1.alloc (.cells (ordC 0 noF) 105)).setRow w1.heap.size (ordC n (turnF n f n 0))) := below_setRow (hbel1.alloc hbel1.size _) hbel1.size _
  have hlt1 := HO1.out.lt
  clear hb1 i0 a0
  go_wp2_with (refine wpList_alloc_ord rfl rfl ?_)
  refine (hasJoins_any n f _ hn).mono ?_
  rintro e w2 ⟨⟨r, rfl, hr⟩, hb2⟩
  have HN3 : Hid (OrdAt w2 w1.heap.size n (turnF n f n 0)) := Below.row hb2 HN2.out (lt_of_row HN2.out)
  have i3 := HN3.out.is
  have a3 := HN3.out.at
  have hbel3 := hbel2.trans (hb2.mono hbel2.size)
  have HR := hide hr
  clear hb2 i1 i2 a2 hr
  cases r
  · have HF : Hid (¬ latO n f) := fun h => by have := HR.out.2 h.1; simp at this
    go_wp2
    go_ret
    exact ⟨RetB.no HF.out, hbel3⟩
  · go_wp2_with fail
    refine (hasJoins_any n (turnF n f n 0) _ hn).mono ?_
    rintro e w3 ⟨⟨r2, rfl, hr2⟩, hb3⟩
    have hbel4 := hbel3.trans (hb3.mono hbel3.size)
    have HR2 := hide hr2
    clear hb3 i3 a3 hr2
    go_wp2
    go_ret
    exact ⟨⟨r2, rfl, ⟨fun h => ⟨HR.out.1 (by simp), HR2.out.1 h⟩, fun h => HR2.out.2 h.2⟩⟩, hbel4⟩
end Go.Proofs.YtgigkiocdiffjaaGreat
