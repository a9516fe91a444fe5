/- cutNothing, readOn: an array of 13 bools, by value. -/
import Derived.Test.YtgigkiocdiffjaaGreatLeaf
import Derived.Laws.Rows
import Derived.Laws.CopyOwn
namespace Go.Proofs.YtgigkiocdiffjaaGreat
open Go.RowKit Veil
/-- An array of bools, as cells. -/
def bools (l : List Bool) : Array Value := (l.map Value.bool).toArray
theorem bools_size (l : List Bool) : (bools l).size = l.length := by simp [bools]
theorem bools_get (l : List Bool) (n : Nat) : (bools l)[n]? = (l[n]?).map Value.bool := by simp [bools]
theorem bools_set (l : List Bool) (n : Nat) (b : Bool) : (bools l).setIfInBounds n (.bool b) = bools (l.set n b) := by simp [bools, List.map_set]
theorem bools_one (l : List Bool) : (bools l).all (·.oneCell') = true := by
  simp [bools, Value.oneCell']
theorem Tryz.sizeCuts : (Tryz.prog.info? 192).map (·.size) = some 13 := by kernel_rfl
theorem sizeCuts_of {l : List Bool} (h : l.length = 13) : (Tryz.prog.info? 192).map (·.size) = some (bools l).size := by rw [Tryz.sizeCuts, bools_size, h]

/-- A cell of a row of bools. -/
theorem vec_cell {w : World} {g k j : Nat} {p t : List UInt8} {ty : TypeId} (h : w.heap[g]? = some (.cells (bools (vecTo p t k)) ty (0, 0))) (hj : j ≤ k) (hj' : j < 13) :
    w.cell? ⟨g, j, none⟩ = some (.bool (cutB (p.take j) t)) := by
  rw [cell_of_row _ _ _ _ _ _ h, bools_get, vecTo_get _ _ _ _ hj']; simp [hj]
theorem vec_cell_past {w : World} {g k j : Nat} {p t : List UInt8} {ty : TypeId} (h : w.heap[g]? = some (.cells (bools (vecTo p t k)) ty (0, 0))) (hj : k < j) (hj' : j < 13) :
    w.cell? ⟨g, j, none⟩ = some (.bool false) := by
  rw [cell_of_row _ _ _ _ _ _ h, bools_get, vecTo_get _ _ _ _ hj']; simp [show ¬ j ≤ k by omega]
/-- One cell more. -/
theorem vec_step {w : World} {g k : Nat} {p t : List UInt8} {ty : TypeId} {b : Bool} (h : w.heap[g]? = some (.cells (bools (vecTo p t k)) ty (0, 0))) (hk : k < 12) (hb : b = cutB (p.take (k + 1)) t) :
    (w.setCell ⟨g, k + 1, none⟩ (.bool b)).heap[g]? = some (.cells (bools (vecTo p t (k + 1))) ty (0, 0)) := by
  rw [heap_setCell_same _ _ _ _ _ _ h, bools_set, hb, vecTo_set _ _ _ hk]
/-- A cell that stays false need not be written. -/
theorem vec_skip {w : World} {g k : Nat} {p t : List UInt8} {ty : TypeId} (h : w.heap[g]? = some (.cells (bools (vecTo p t k)) ty (0, 0))) (hk : k < 12) (hb : cutB (p.take (k + 1)) t = false) :
    w.heap[g]? = some (.cells (bools (vecTo p t (k + 1))) ty (0, 0)) := by
  rw [h, ← vecTo_set _ _ _ hk, hb]
  have : (vecTo p t k).set (k + 1) false = vecTo p t k := by
    apply List.ext_getElem?
    intro n
    rw [List.getElem?_set]
    by_cases e : k + 1 = n
    · subst e; rw [if_pos rfl, if_pos (by rw [vecTo_length]; omega), vecTo_get _ _ _ _ (by omega)]; simp [show ¬ k + 1 ≤ k by omega]
    · rw [if_neg e]
  rw [this]

theorem eq42 (b : UInt8) : (((b.toNat : Int) == 42) : Bool) = (b == 42) := by
  rw [Bool.eq_iff_iff]; simp [← UInt8.toNat_inj]; omega
theorem eq63 (b : UInt8) : (((b.toNat : Int) == 63) : Bool) = (b == 63) := by
  rw [Bool.eq_iff_iff]; simp [← UInt8.toNat_inj]; omega
theorem eqB (a b : UInt8) : (((a.toNat : Int) == (b.toNat : Int)) : Bool) = (a == b) := by
  rw [Bool.eq_iff_iff]; simp [← UInt8.toNat_inj]; omega
theorem nothing_step (s : ByteArray) (k : Nat) (h : k < s.size) : cutB ((bytes s).take (k + 1)) [] = (cutB ((bytes s).take k) [] && (s[k] == 42)) := by
  rw [take_snoc s k h, cutB_snoc_nil]

set_option maxHeartbeats 400000 in
theorem nothing_any (s : ByteArray) (w : World) (h1 : 1 ≤ s.size) (h2 : s.size ≤ 12) :
    Calls Tryz.prog 123 #[.string s] w fun e w' => e = .returned (.agg (bools (vecTo (bytes s) [] s.size))) ∧ Below w.heap.size w w' := by
  go_enter Tryz.func123, Tryz.ntmps123
  go_wp2
  go_loopw [4] (fun i wr => ∃ k : Nat, k ≤ s.size ∧ i = .int .i64 k ∧ wr.heap[w.heap.size + 1]? = some (.cells (bools (vecTo (bytes s) [] k)) 192 (0, 0)) ∧
      wr.heap[w.heap.size]? = some (.cells (bools (List.replicate 13 false)) 192 (0, 0)) ∧ Below w.heap.size w wr) (fun i _ => s.size - (intOf i).toNat)
  case atStart => exact ⟨0, Nat.zero_le _, rfl, heap_alloc2_new _ _ _, heap_alloc2_old _ _ _, ((Below.refl _ _).alloc (Nat.le_refl _) _).alloc (by simp) _⟩
  case round =>
    obtain ⟨k, hk, rfl, hrow, hres, hbel⟩ := hrel
    have HR : Hid _ := hrow
    have HS : Hid _ := hres
    by_cases hlt : k < s.size
    · have hc0 := vec_cell hrow (Nat.le_refl k) (by omega)
      have hc1 := vec_cell_past hrow (Nat.lt_succ_self k) (by omega)
      have hf1 : wr.frozen? ⟨w.heap.size + 1, k + 1, none⟩ = false := frozen_of_row _ _ _ _ _ hrow
      have HN : Hid _ := nothing_step s k hlt
      clear hrow hres
      cases hc : cutB ((bytes s).take k) []
      all_goals
        go_wp2
        go_roundw
        case rel =>
          refine ⟨k + 1, by omega, by go_num, vec_step HR.out (by omega) ?_, ?_, hbel.setCell (by simp) _⟩
          · rw [HN.out, hc]; simp [eq42]
          · rw [heap_setCell_other _ _ _ _ (by simp)]; exact HS.out
        case measure => simp [intOf]; omega
    · have : k = s.size := by omega
      subst this
      clear hrow hres
      go_wp2_with (first
        | (refine wpList_load_row rfl 192 _ rfl (w.heap.size + 1) rfl 192 (bools (vecTo (bytes s) [] s.size)) (0, 0) _ HR.out Tryz.underlying192 rfl (sizeCuts_of (vecTo_length _ _ _)) ?_)
        | (refine wpList_store_row rfl 192 _ _ rfl w.heap.size (bools (vecTo (bytes s) [] s.size)) rfl rfl 192 _ HS.out (sizeCuts_of (vecTo_length _ _ _)) (by simp [bools_size, vecTo_length]) (bools_one _) ?_))
      exact bodyPost_ret (results_cell_row Tryz.results123 _ _ w.heap.size 192 (bools (vecTo (bytes s) [] s.size)) (0, 0) _ (by simp [Act.put]) (setRow_heap _ _ _ _ _ _ HS.out) Tryz.underlying192 rfl (sizeCuts_of (vecTo_length _ _ _))) rfl ⟨rfl, below_setRow hbel (Nat.le_refl _) _⟩

theorem vec_start (p t : List UInt8) (b : UInt8) : bools (vecTo p (t ++ [b]) 0) = bools (List.replicate 13 false) := by
  have : vecTo p (t ++ [b]) 0 = List.replicate 13 false := by
    apply List.ext_getElem?
    intro n
    by_cases hn : n < 13
    · rw [vecTo_get _ _ _ _ hn, List.getElem?_replicate, if_pos hn]
      by_cases e : n = 0
      · subst e; simp [cutB]
      · simp [e]
    · rw [List.getElem?_eq_none (by rw [vecTo_length]; omega), List.getElem?_eq_none (by simp; omega)]
  rw [this]
theorem read_star (s : ByteArray) (t : List UInt8) (b : UInt8) (k : Nat) (h : k < s.size) (h42 : s[k] = 42) :
    (cutB ((bytes s).take k) (t ++ [b]) || cutB ((bytes s).take (k + 1)) t) = cutB ((bytes s).take (k + 1)) (t ++ [b]) := by
  rw [take_snoc s k h, h42, cutB_snoc_star]
theorem read_one (s : ByteArray) (t : List UInt8) (b : UInt8) (k : Nat) (h : k < s.size) (h42 : s[k] ≠ 42) :
    ((s[k] == 63 || s[k] == b) && cutB ((bytes s).take k) t) = cutB ((bytes s).take (k + 1)) (t ++ [b]) := by
  rw [take_snoc s k h, cutB_snoc_one _ _ _ _ h42]
theorem alloc3_0 (w : World) (A B C : Obj) : (((w.alloc A).alloc B).alloc C).heap[w.heap.size]? = some A :=
  (heap_alloc_old ((w.alloc A).alloc B) C (by simp; omega)).trans (heap_alloc2_old w A B)
theorem alloc3_1 (w : World) (A B C : Obj) : (((w.alloc A).alloc B).alloc C).heap[w.heap.size + 1]? = some B :=
  (heap_alloc_old ((w.alloc A).alloc B) C (by simp)).trans (heap_alloc2_new w A B)
theorem alloc3_2 (w : World) (A B C : Obj) : (((w.alloc A).alloc B).alloc C).heap[w.heap.size + 2]? = some C := by
  have h := heap_alloc_new ((w.alloc A).alloc B) C
  simpa using h

set_option maxHeartbeats 1000000 in
theorem read_any (s : ByteArray) (t : List UInt8) (b : UInt8) (w : World) (h1 : 1 ≤ s.size) (h2 : s.size ≤ 12) :
    Calls Tryz.prog 124 #[.agg (bools (vecTo (bytes s) t s.size)), .string s, .int .u8 b.toNat] w fun e w' =>
      e = .returned (.agg (bools (vecTo (bytes s) (t ++ [b]) s.size))) ∧ Below w.heap.size w w' := by
  go_enter Tryz.func124, Tryz.ntmps124
  go_wp2
  go_loopw [8] (fun i wr => ∃ k : Nat, k ≤ s.size ∧ i = .int .i64 k ∧ wr.heap[w.heap.size + 2]? = some (.cells (bools (vecTo (bytes s) (t ++ [b]) k)) 192 (0, 0)) ∧
      wr.heap[w.heap.size + 1]? = some (.cells (bools (List.replicate 13 false)) 192 (0, 0)) ∧ wr.heap[w.heap.size]? = some (.cells (bools (vecTo (bytes s) t s.size)) 192 (0, 0)) ∧ Below w.heap.size w wr) (fun i _ => s.size - (intOf i).toNat)
  case atStart =>
    refine ⟨0, Nat.zero_le _, rfl, ?_, alloc3_1 _ _ _ _, alloc3_0 _ _ _ _, (((Below.refl _ _).alloc (Nat.le_refl _) _).alloc (by simp) _).alloc (by simp; omega) _⟩
    rw [vec_start]; exact alloc3_2 _ _ _ _
  case round =>
    obtain ⟨k, hk, rfl, hrow, hres, hold, hbel⟩ := hrel
    have HR : Hid _ := hrow
    have HS : Hid _ := hres
    have HO : Hid _ := hold
    by_cases hlt : k < s.size
    · have hn0 := vec_cell hrow (Nat.le_refl k) (by omega)
      have hn1 := vec_cell_past hrow (Nat.lt_succ_self k) (by omega)
      have hc0 := vec_cell hold (Nat.le_of_lt hlt) (by omega)
      have hc1 := vec_cell hold (show k + 1 ≤ s.size by omega) (by omega)
      have hf1 : wr.frozen? ⟨w.heap.size + 2, k + 1, none⟩ = false := frozen_of_row _ _ _ _ _ hrow
      by_cases h42 : s[k] = 42
      · have hb42 : (((s[k]).toNat : Int) == 42) = true := by rw [eq42, h42]; rfl
        have HN : Hid _ := read_star s t b k hlt h42
        clear hrow hres hold h42
        cases hc : cutB ((bytes s).take k) (t ++ [b])
        all_goals
          go_wp2
          go_roundw
          case rel =>
            refine ⟨k + 1, by omega, by go_num, vec_step HR.out (by omega) ?_, ?_, ?_, hbel.setCell (by dsimp only; omega) _⟩
            · rw [← HN.out, hc]; simp
            · rw [heap_setCell_other _ _ _ _ (by dsimp only; omega)]; exact HS.out
            · rw [heap_setCell_other _ _ _ _ (by dsimp only; omega)]; exact HO.out
          case measure => simp [intOf]; omega
      · have hb42 : (((s[k]).toNat : Int) == 42) = false := by rw [eq42]; simpa using h42
        have HN : Hid _ := read_one s t b k hlt h42
        clear hrow hres hold h42
        by_cases h63 : s[k] = 63
        · have hb63 : (((s[k]).toNat : Int) == 63) = true := by rw [eq63, h63]; rfl
          have H63 : Hid _ := h63
          clear h63
          go_wp2
          go_roundw
          case rel =>
            refine ⟨k + 1, by omega, by go_num, vec_step HR.out (by omega) ?_, ?_, ?_, hbel.setCell (by dsimp only; omega) _⟩
            · rw [← HN.out, H63.out]; simp
            · rw [heap_setCell_other _ _ _ _ (by dsimp only; omega)]; exact HS.out
            · rw [heap_setCell_other _ _ _ _ (by dsimp only; omega)]; exact HO.out
          case measure => simp [intOf]; omega
        · have hb63 : (((s[k]).toNat : Int) == 63) = false := by rw [eq63]; simpa using h63
          have H63 : Hid _ := h63
          clear h63
          by_cases hb : s[k] = b
          · have hbb : (((s[k]).toNat : Int) == (b.toNat : Int)) = true := by rw [eqB]; simpa using hb
            have HB : Hid _ := hb
            clear hb
            go_wp2
            go_roundw
            case rel =>
              refine ⟨k + 1, by omega, by go_num, vec_step HR.out (by omega) ?_, ?_, ?_, hbel.setCell (by dsimp only; omega) _⟩
              · rw [← HN.out, HB.out]; simp
              · rw [heap_setCell_other _ _ _ _ (by dsimp only; omega)]; exact HS.out
              · rw [heap_setCell_other _ _ _ _ (by dsimp only; omega)]; exact HO.out
            case measure => simp [intOf]; omega
          · have hbb : (((s[k]).toNat : Int) == (b.toNat : Int)) = false := by rw [eqB]; simpa using hb
            have HB : Hid _ := hb
            clear hb
            go_wp2
            go_roundw
            case rel =>
              refine ⟨k + 1, by omega, by go_num, vec_skip HR.out (by omega) ?_, HS.out, HO.out, hbel⟩
              rw [← HN.out, ← eq63, ← eqB, hb63, hbb]; rfl
            case measure => simp [intOf]; omega
    · have : k = s.size := by omega
      subst this
      clear hrow hres hold
      go_wp2_with (first
        | (refine wpList_load_row rfl 192 _ rfl (w.heap.size + 2) rfl 192 (bools (vecTo (bytes s) (t ++ [b]) s.size)) (0, 0) _ HR.out Tryz.underlying192 rfl (sizeCuts_of (vecTo_length _ _ _)) ?_)
        | (refine wpList_store_row rfl 192 _ _ rfl (w.heap.size + 1) (bools (vecTo (bytes s) (t ++ [b]) s.size)) rfl rfl 192 _ HS.out (sizeCuts_of (vecTo_length _ _ _)) (by simp [bools_size, vecTo_length]) (bools_one _) ?_))
      exact bodyPost_ret (results_cell_row Tryz.results124 _ _ (w.heap.size + 1) 192 (bools (vecTo (bytes s) (t ++ [b]) s.size)) (0, 0) _ (by simp [Act.put]) (setRow_heap _ _ _ _ _ _ HS.out) Tryz.underlying192 rfl (sizeCuts_of (vecTo_length _ _ _))) rfl ⟨rfl, below_setRow hbel (by omega) _⟩
end Go.Proofs.YtgigkiocdiffjaaGreat
