/- order.follow: the table. -/
import Derived.Test.YtgigkiocdiffjaaGreatOrder2
import Derived.BigRegion
namespace Go.Proofs.YtgigkiocdiffjaaGreat
open Go.RowKit Veil
@[go_sem] theorem okRow_ordC (L : Int) (f : Nat → Nat → Bool) : okRow (ordC L f) 37 = True := eq_true (ordC_ok L f)
theorem rowIs_alloc {w : World} {o : Obj} {g n : Nat} (hg : g < w.heap.size) (h : rowIs w g n) : rowIs (w.alloc o) g n := by
  obtain ⟨cs, t, h1, h2⟩ := h
  exact ⟨cs, t, (heap_alloc_old _ _ hg).trans h1, h2⟩
theorem OrdAt.store {w : World} {g a b : Nat} {L : Int} {f f' : Nat → Nat → Bool} {x : Bool} (h : OrdAt w g L f) (ha : a < 6) (hb : b < 6) (hf : ∀ i j, i < 6 → j < 6 → f' i j = if i = a ∧ j = b then x else f i j) :
    OrdAt (w.setCell ⟨g, 1 + a * 6 + b, none⟩ (.bool x)) g L f' := by
  unfold OrdAt at *
  rw [heap_setCell_same _ _ _ _ _ _ h, ordC_set _ _ _ _ _ ha hb, ordC_congr _ f' _ hf]
theorem OrdAt.same {w : World} {g : Nat} {L : Int} {f f' : Nat → Nat → Bool} (h : OrdAt w g L f) (hf : ∀ i j, i < 6 → j < 6 → f' i j = f i j) : OrdAt w g L f' := by
  unfold OrdAt at *
  rw [h, ordC_congr _ f' _ hf]
theorem OrdAt.frozen {w : World} {g : Nat} {L : Int} {f : Nat → Nat → Bool} (h : OrdAt w g L f) (j : Nat) : w.frozen? ⟨g, j, none⟩ = false := frozen_of_row _ _ _ _ _ h
theorem rowIs.other {w : World} {g g' j n : Nat} {v : Value} (h : rowIs w g n) (hne : g ≠ g') : rowIs (w.setCell ⟨g', j, none⟩ v) g n := by
  obtain ⟨cs, t, h1, h2⟩ := h
  exact ⟨cs, t, row_other h1 hne, h2⟩
theorem rowIs.below {w w' : World} {g n B : Nat} (h : rowIs w g n) (hb : Below B w w') (hg : g < B) : rowIs w' g n := by
  obtain ⟨cs, t, h1, h2⟩ := h
  exact ⟨cs, t, Below.row hb h1 hg, h2⟩
/-- The diagonal; the edges; the table behind k rounds. -/
def diagF (k x y : Nat) : Bool := decide (x = y) && decide (x < k)
def edgeF (E : List (Int × Int)) (n j x y : Nat) : Bool := diagF n x y || (E.take j).any fun e => decide (e.1.toNat = x) && decide (e.2.toNat = y)
def tabF (E : List (Int × Int)) (n k x y : Nat) : Bool := decide (x < n) && decide (y < n) && fw (fwInit E) k x y
def procF (n k : Nat) (f : Nat → Nat → Bool) (a b x y : Nat) : Bool := if (x < a ∨ (x = a ∧ y < b)) ∧ y < n then fwStep k f x y else f x y
theorem edgeF_all (E : List (Int × Int)) (n : Nat) (hE : inE E n) (x y : Nat) : edgeF E n E.length x y = tabF E n 0 x y := by
  unfold edgeF tabF diagF fw fwInit
  rw [List.take_length, Bool.eq_iff_iff]
  simp only [Bool.or_eq_true, Bool.and_eq_true, decide_eq_true_eq, List.any_eq_true]
  constructor
  · rintro (⟨rfl, h⟩ | ⟨e, he, rfl, rfl⟩)
    · exact ⟨⟨h, h⟩, Or.inl rfl⟩
    · have := hE e he
      exact ⟨⟨by omega, by omega⟩, Or.inr ⟨e, he, rfl, rfl⟩⟩
  · rintro ⟨⟨h1, h2⟩, h | h⟩
    · exact Or.inl ⟨h, h1⟩
    · exact Or.inr h
theorem edgeF_succ (E : List (Int × Int)) (n j : Nat) (p q : Nat) (h : E[j]? = some ((p : Int), (q : Int))) (x y : Nat) : edgeF E n (j + 1) x y = if x = p ∧ y = q then true else edgeF E n j x y := by
  unfold edgeF
  rw [List.take_add_one, h]
  simp only [Option.toList_some, List.any_append, List.any_cons, List.any_nil, Bool.or_false, Int.toNat_natCast]
  split
  · rename_i hh; obtain ⟨rfl, rfl⟩ := hh; simp
  · rename_i hh
    have : (decide (p = x) && decide (q = y)) = false := by
      rw [Bool.eq_false_iff]; intro h'; apply hh
      simp only [Bool.and_eq_true, decide_eq_true_eq] at h'
      exact ⟨h'.1.symm, h'.2.symm⟩
    rw [this, Bool.or_false]
theorem procF_zero (n k : Nat) (f : Nat → Nat → Bool) (x y : Nat) : procF n k f 0 0 x y = f x y := by unfold procF; rw [if_neg (by omega)]
theorem procF_row (n k : Nat) (f : Nat → Nat → Bool) (a x y : Nat) : procF n k f (a + 1) 0 x y = procF n k f a n x y := by
  unfold procF
  by_cases h : (x < a ∨ (x = a ∧ y < n)) ∧ y < n
  · rw [if_pos h, if_pos (by omega)]
  · rw [if_neg h, if_neg (by omega)]
theorem procF_col (n k : Nat) (f : Nat → Nat → Bool) (a b x : Nat) : procF n k f a b x k = f x k := by
  unfold procF fwStep
  split
  · cases f x k <;> simp
  · rfl
theorem procF_line (n k : Nat) (f : Nat → Nat → Bool) (a b y : Nat) : procF n k f a b k y = f k y := by
  unfold procF fwStep
  split
  · cases f k k <;> cases f k y <;> rfl
  · rfl
theorem procF_succ (n k : Nat) (f : Nat → Nat → Bool) (a b : Nat) (hb : b < n) (x y : Nat) : procF n k f a (b + 1) x y = if x = a ∧ y = b then (f a b || (f a k && f k b)) else procF n k f a b x y := by
  unfold procF
  by_cases h : x = a ∧ y = b
  · obtain ⟨rfl, rfl⟩ := h
    rw [if_pos (by omega), if_pos ⟨rfl, rfl⟩]; rfl
  · rw [if_neg h]
    by_cases h2 : (x < a ∨ (x = a ∧ y < b)) ∧ y < n
    · rw [if_pos h2, if_pos (by omega)]
    · rw [if_neg h2, if_neg (by omega)]
theorem procF_at (n k : Nat) (f : Nat → Nat → Bool) (a b : Nat) : procF n k f a b a b = f a b := by unfold procF; rw [if_neg (by omega)]
theorem procF_done (E : List (Int × Int)) (n k : Nat) (hk : k < n) (x y : Nat) : procF n k (tabF E n k) n 0 x y = tabF E n (k + 1) x y := by
  unfold procF
  by_cases h : (x < n ∨ (x = n ∧ y < 0)) ∧ y < n
  · rw [if_pos h]
    have h1 : x < n := by omega
    simp [fwStep, tabF, fw, h1, h.2, hk]
  · rw [if_neg h]
    unfold tabF
    have : (decide (x < n) && decide (y < n)) = false := by
      rw [Bool.eq_false_iff]; intro h'
      simp only [Bool.and_eq_true, decide_eq_true_eq] at h'
      omega
    rw [this]; rfl
theorem ordC_build (L : Int) : ordC L (fun _ _ => false) = #[.int .i64 L, .bool false, .bool false, .bool false, .bool false, .bool false, .bool false, .bool false, .bool false, .bool false, .bool false, .bool false, .bool false, .bool false, .bool false, .bool false, .bool false, .bool false, .bool false, .bool false, .bool false, .bool false, .bool false, .bool false, .bool false, .bool false, .bool false, .bool false, .bool false, .bool false, .bool false, .bool false, .bool false, .bool false, .bool false, .bool false, .bool false] := by
  simp [ordC, List.range_succ]
/-- A new order; one that is built. -/
def noF : Nat → Nat → Bool := fun _ _ => false
set_option maxRecDepth 100000 in
theorem wpList_alloc_ord {w : World} {ops : Array Oper} {rest : List Oper} {o : Oper} {a : Act} {Q : Exit → Act → World → Prop} (hgd : o.guard = none) (ho : o.op = .alloc 105)
    (h : wpList Tryz.prog ops Q rest (a.put o.dst (.pointer (some ⟨w.heap.size, 0, none⟩))) (w.alloc (.cells (ordC 0 noF) 105))) : wpList Tryz.prog ops Q (o :: rest) a w := by
  refine wpList_plain hgd fun K hK => ?_
  have h' := hK _ _ h
  unfold noF at h'
  rw [ordC_build] at h'
  clear hK h
  obtain ⟨dst, op, ty, pos, aft, gd⟩ := o
  simp only at ho
  subst ho
  go_simp
  exact h'
theorem built_ord (L : Int) : (Tryz.prog.built 105 [(0, .int .i64 L)]).getD #[] = #[.int .i64 L, .bool false, .bool false, .bool false, .bool false, .bool false, .bool false, .bool false, .bool false, .bool false, .bool false, .bool false, .bool false, .bool false, .bool false, .bool false, .bool false, .bool false, .bool false, .bool false, .bool false, .bool false, .bool false, .bool false, .bool false, .bool false, .bool false, .bool false, .bool false, .bool false, .bool false, .bool false, .bool false, .bool false, .bool false, .bool false, .bool false] := by kernel_rfl
theorem built_zero : (Tryz.prog.built 105 []).getD #[] = #[.int .i64 0, .bool false, .bool false, .bool false, .bool false, .bool false, .bool false, .bool false, .bool false, .bool false, .bool false, .bool false, .bool false, .bool false, .bool false, .bool false, .bool false, .bool false, .bool false, .bool false, .bool false, .bool false, .bool false, .bool false, .bool false, .bool false, .bool false, .bool false, .bool false, .bool false, .bool false, .bool false, .bool false, .bool false, .bool false, .bool false, .bool false] := by kernel_rfl
theorem built_ord' (L : Int) : (Tryz.prog.built 105 [(0, .int .i64 L)]).isSome = true := by kernel_rfl
theorem built_zero' : (Tryz.prog.built 105 []).isSome = true := by kernel_rfl
theorem wpList_build_ord {w : World} {ops : Array Oper} {rest : List Oper} {o : Oper} {a : Act} {Q : Exit → Act → World → Prop} (hgd : o.guard = none) (x : Operand) (L : Int) (ho : o.op = .build 105 #[(0, x)]) (hx : a.eval x = .int .i64 L)
    (h : wpList Tryz.prog ops Q rest (a.put o.dst (.agg (ordC L noF))) w) : wpList Tryz.prog ops Q (o :: rest) a w := by
  refine wpList_build hgd 105 #[(0, x)] ho (by simp only [List.map_toArray, List.map_cons, List.map_nil, hx]; exact built_ord' L) ?_
  simp only [List.map_toArray, List.map_cons, List.map_nil, hx]
  rw [built_ord L]
  unfold noF at h
  rw [ordC_build] at h
  exact h
set_option maxRecDepth 100000 in
theorem wpList_build_zero {w : World} {ops : Array Oper} {rest : List Oper} {o : Oper} {a : Act} {Q : Exit → Act → World → Prop} (hgd : o.guard = none) (ho : o.op = .build 105 #[])
    (h : wpList Tryz.prog ops Q rest (a.put o.dst (.agg (ordC 0 noF))) w) : wpList Tryz.prog ops Q (o :: rest) a w := by
  have e : ((#[] : Array (Nat × Operand)).map fun (i, x) => (i, a.eval x)).toList = [] := by simp
  refine wpList_build hgd 105 #[] ho (by rw [e]; exact built_zero') ?_
  rw [e, built_zero]
  unfold noF at h
  rw [ordC_build] at h
  exact h
theorem rowIs_two (w : World) (o : Obj) (L : Int) (f : Nat → Nat → Bool) : rowIs ((w.alloc o).alloc (.cells (ordC L f) 105)) (w.heap.size + 1) 37 := ⟨_, _, heap_alloc2_new _ _ _, ordC_size _ _⟩

set_option maxRecDepth 100000 in
set_option maxHeartbeats 4000000 in
theorem follow_any (n : Nat) (E : List (Int × Int)) (ea : Option Addr) (ec : Nat) (w : World) (hn : n ≤ 6) (hE30 : E.length ≤ 30) (hE : inE E n) (hat : SeqAt xE yE w ea E) :
    Calls Tryz.prog 144 #[.int .i64 n, .slice ea E.length ec] w fun e w' => e = .returned (.agg (ordC n (tabF E n n))) ∧ Below w.heap.size w w' := by
  have HE := hide hE
  have HA := hide hat
  have r1 := fun (o : Obj) (L : Int) (f : Nat → Nat → Bool) => rowIs_two w o L f
  clear hE hat
  go_enter Tryz.func144, Tryz.ntmps144
  go_wp2_with (first | (refine wpList_alloc_ord rfl rfl ?_) | (refine wpList_build_ord rfl (.tmp 12) n rfl rfl ?_))
  go_loopw [6] (fun i wr => ∃ k : Nat, k ≤ n ∧ i = .int .i64 k ∧ OrdAt wr (w.heap.size + 1) n (diagF k) ∧ rowIs wr w.heap.size 37 ∧ Below w.heap.size w wr) (fun i _ => n - (intOf i).toNat)
  case atStart =>
    refine ⟨0, Nat.zero_le _, rfl, ?_, ?_, below_setRow ((below_box _ _).alloc (by simp) _) (by omega) _⟩
    · have := setRow_heap _ _ _ (ordC n noF) _ _ (heap_alloc2_new w (.cells (ordC 0 noF) 105) (.cells (ordC 0 noF) 105))
      exact OrdAt.same (f := noF) this (fun i j _ _ => by simp [diagF, noF])
    · exact ⟨ordC 0 noF, 105, (setRow_other _ _ _ _ (by omega)).trans (heap_alloc2_old _ _ _), ordC_size _ _⟩
  case round =>
    obtain ⟨k, hk, rfl, hO, hres, hbel⟩ := hrel
    have HO := hide hO
    have HR := hide hres
    by_cases hlt : k < n
    · have c1 := hO.cell k k (by omega) (by omega)
      have f1 := hO.frozen (1 + k * 6 + k)
      clear hO hres
      go_wp2
      go_roundw
      case rel =>
        refine ⟨k + 1, by omega, by go_num, HO.out.store (by omega) (by omega) (fun i j _ _ => ?_), HR.out.other (by omega), hbel.setCell (by dsimp only; omega) _⟩
        unfold diagF
        by_cases e : i = k ∧ j = k
        · obtain ⟨rfl, rfl⟩ := e; simp
        · rw [if_neg e]
          by_cases e2 : i = j
          · subst e2
            have : decide (i < k + 1) = decide (i < k) := by rw [decide_eq_decide]; omega
            rw [this]
          · simp [e2]
      case measure => simp [intOf]; omega
    · have hke : k = n := by omega
      have HO0 : Hid (OrdAt wr (w.heap.size + 1) n (edgeF E n 0)) := HO.out.same (fun i j _ _ => by rw [hke]; simp [edgeF])
      clear hO hres hke HO
      go_wp2
      go_loopw [26] (fun i wr => ∃ j : Nat, j ≤ E.length ∧ i = .int .i64 j ∧ OrdAt wr (w.heap.size + 1) n (edgeF E n j) ∧ rowIs wr w.heap.size 37 ∧ Below w.heap.size w wr) (fun i _ => E.length - (intOf i).toNat)
      case atStart => exact ⟨0, Nat.zero_le _, rfl, HO0.out, HR.out, hbel⟩
      case round =>
        clear HO0 HR hbel hk hlt
        obtain ⟨j, hj, rfl, hO, hres, hbel⟩ := hrel
        have HO := hide hO
        have HR := hide hres
        by_cases hlt : j < E.length
        · have hej : E[j]? = some E[j] := List.getElem?_eq_getElem hlt
          obtain ⟨b, off, hao, hbl, d1, d2⟩ := HA.out.at hbel hej
          have hin := HE.out _ (List.getElem_mem hlt)
          generalize E[j] = e at *
          obtain ⟨e1, e2⟩ := e
          simp only [xE, yE] at hin d1 d2
          obtain ⟨h1, h2, h3, h4⟩ := hin
          obtain ⟨x, rfl⟩ := Int.eq_ofNat_of_zero_le h1
          obtain ⟨y, rfl⟩ := Int.eq_ofNat_of_zero_le h3
          have HS := hide (edgeF_succ E n j x y hej)
          have c1 := hO.cell x y (by omega) (by omega)
          have f1 := hO.frozen (1 + x * 6 + y)
          have hbw : b < wr.heap.size := Nat.lt_of_lt_of_le hbl hbel.size
          have hOlt := hO.lt
          have hx6 : (x : Int) < 6 := by omega
          have hy6 : (y : Int) < 6 := by omega
          have hidx : ∀ w', (Instr.indexAt 27 (.slice ea E.length ec) (.int .i64 (j : Int))).run Tryz.prog w' = .ok (.pointer (some ⟨b, off + j * 2, none⟩)) w' := by
            intro w'
            have hji : (j : Int) < (E.length : Int) := by omega
            rw [hao]
            go_simp
          clear hO hres hej h1 h2 h3 h4 hao
          go_wp2_with fail
          go_region
          all_goals
            go_wp2
            go_roundw
            case rel =>
              have S1 := HO.out.store (x := true) (f' := edgeF E n (j + 1)) (a := x) (b := y) (by omega) (by omega) (fun i k _ _ => HS.out i k)
              have R1 : rowIs (wr.setCell ⟨w.heap.size + 1, 1 + x * 6 + y, none⟩ (.bool true)) w.heap.size 37 := HR.out.other (by omega)
              exact ⟨j + 1, by omega, by go_num, S1.below (below_box _ _).drew S1.lt, R1.below (below_box _ _).drew (Nat.lt_of_succ_lt S1.lt), ((hbel.setCell (by dsimp only; omega) _).alloc (by have := S1.lt; omega) _).drew⟩
            case measure => simp [intOf]; omega
        · have HT0 : Hid (OrdAt wr (w.heap.size + 1) n (tabF E n 0)) := HO.out.same (fun i k _ _ => by rw [← edgeF_all E n HE.out, show j = E.length by omega])
          clear hO hres HO
          go_wp2
          go_loopw [9] (fun i wr => ∃ k : Nat, k ≤ n ∧ i = .int .i64 k ∧ OrdAt wr (w.heap.size + 1) n (tabF E n k) ∧ rowIs wr w.heap.size 37 ∧ Below w.heap.size w wr) (fun i _ => n - (intOf i).toNat)
          case atStart => exact ⟨0, Nat.zero_le _, rfl, HT0.out, HR.out, hbel⟩
          case round =>
            clear HT0 HR hbel hj hlt
            obtain ⟨k, hk, rfl, hO, hres, hbel⟩ := hrel
            have HO := hide hO
            have HR := hide hres
            by_cases hkn : k < n
            · clear hO hres
              go_wp2
              go_loopw [10] (fun i wr => ∃ a : Nat, a ≤ n ∧ i = .int .i64 a ∧ OrdAt wr (w.heap.size + 1) n (procF n k (tabF E n k) a 0) ∧ rowIs wr w.heap.size 37 ∧ Below w.heap.size w wr) (fun i _ => n - (intOf i).toNat)
              case atStart => exact ⟨0, Nat.zero_le _, rfl, HO.out.same (fun i j _ _ => procF_zero _ _ _ _ _), HR.out, hbel⟩
              case round =>
                clear HO HR hbel
                obtain ⟨a, ha, rfl, hO, hres, hbel⟩ := hrel
                have HO := hide hO
                have HR := hide hres
                by_cases han : a < n
                · clear hO hres
                  go_wp2
                  go_loopw [11] (fun i wr => ∃ b : Nat, b ≤ n ∧ i = .int .i64 b ∧ OrdAt wr (w.heap.size + 1) n (procF n k (tabF E n k) a b) ∧ rowIs wr w.heap.size 37 ∧ Below w.heap.size w wr) (fun i _ => n - (intOf i).toNat)
                  case atStart => exact ⟨0, Nat.zero_le _, rfl, HO.out, HR.out, hbel⟩
                  case round =>
                    clear HO HR hbel
                    obtain ⟨b, hb, rfl, hO, hres, hbel⟩ := hrel
                    have HO := hide hO
                    have HR := hide hres
                    by_cases hbn : b < n
                    · have c1 := hO.cell a k (by omega) (by omega)
                      have c2 := hO.cell k b (by omega) (by omega)
                      have c3 := hO.cell a b (by omega) (by omega)
                      have f3 := hO.frozen (1 + a * 6 + b)
                      rw [procF_col] at c1
                      rw [procF_line] at c2
                      rw [procF_at] at c3
                      have HS := hide (procF_succ n k (tabF E n k) a b hbn)
                      have HAT := hide (procF_at n k (tabF E n k) a b)
                      generalize hT : tabF E n k = T at *
                      clear hO hres
                      cases h1 : T a k
                      · rw [h1] at c1
                        have H1 := hide h1
                        clear h1
                        go_wp2
                        go_roundw
                        case rel => exact ⟨b + 1, by omega, by go_num, HO.out.same (fun i j _ _ => by
                          rw [HS.out, H1.out]
                          split
                          · rename_i e; obtain ⟨rfl, rfl⟩ := e; rw [HAT.out]; simp
                          · rfl), HR.out, hbel⟩
                        case measure => simp [intOf]; omega
                      · rw [h1] at c1
                        cases h2 : T k b
                        · rw [h2] at c2
                          have H2 := hide h2
                          clear h1 h2
                          go_wp2
                          go_roundw
                          case rel => exact ⟨b + 1, by omega, by go_num, HO.out.same (fun i j _ _ => by
                            rw [HS.out, H2.out]
                            split
                            · rename_i e; obtain ⟨rfl, rfl⟩ := e; rw [HAT.out]; simp
                            · rfl), HR.out, hbel⟩
                          case measure => simp [intOf]; omega
                        · rw [h2] at c2
                          have H1 := hide h1
                          have H2 := hide h2
                          clear h1 h2
                          go_wp2
                          go_roundw
                          case rel => exact ⟨b + 1, by omega, by go_num, HO.out.store (by omega) (by omega) (fun i j _ _ => by rw [HS.out, H1.out, H2.out]; simp), HR.out.other (by omega), hbel.setCell (by dsimp only; omega) _⟩
                          case measure => simp [intOf]; omega
                    · have hbe : b = n := by omega
                      have HO2 : Hid (OrdAt wr (w.heap.size + 1) n (procF n k (tabF E n k) (a + 1) 0)) := HO.out.same (fun i j _ _ => by rw [procF_row, hbe])
                      clear hO hres hbe
                      go_wp2
                      go_roundw
                      case rel => exact ⟨a + 1, by omega, by go_num, HO2.out, HR.out, hbel⟩
                      case measure => simp [intOf]; omega
                · have HO2 : Hid (OrdAt wr (w.heap.size + 1) n (tabF E n (k + 1))) := HO.out.same (fun i j _ _ => by rw [← procF_done E n k hkn, show a = n by omega])
                  clear hO hres
                  go_wp2
                  go_roundw
                  case rel => exact ⟨k + 1, by omega, by go_num, HO2.out, HR.out, hbel⟩
                  case measure => simp [intOf]; omega
            · have hke : k = n := by omega
              rw [hke] at hO
              have i0 := hO.is
              have a0 := hO.at
              have HO2 := hide hO
              clear hO hke HO
              go_wp2
              obtain ⟨cs, t', q1, q2⟩ := HR.out
              exact bodyPost_ret (results_cell_row Tryz.results144 _ _ w.heap.size t' (ordC n (tabF E n n)) (0, 0) _ (by simp) (setRow_heap _ _ _ _ _ _ q1) Tryz.underlying105 rfl (by rw [Tryz.sizeOrder, ordC_size])) rfl ⟨rfl, below_setRow hbel (Nat.le_refl _) _⟩
end Go.Proofs.YtgigkiocdiffjaaGreat
