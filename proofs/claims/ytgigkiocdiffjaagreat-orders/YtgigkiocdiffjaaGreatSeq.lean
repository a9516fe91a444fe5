/- Lists of things of two cells each, in memory: edges, rules, grants. -/
import Derived.Test.YtgigkiocdiffjaaGreatLeaf
import Derived.Test.YtgigkiocdiffjaaGreatRowkit
import Derived.Laws.CopyRow
import Derived.Laws.IdiomCopy
namespace Go.Proofs.YtgigkiocdiffjaaGreat
open Go.RowKit Veil
/-- The cells, one thing behind the other. -/
def two {α : Type} (x y : α → Value) (l : List α) : List Value := l.flatMap fun a => [x a, y a]
section
variable {α : Type} (x y : α → Value)
theorem two_cons (a : α) (l : List α) : two x y (a :: l) = x a :: y a :: two x y l := by simp [two]
theorem two_append (l m : List α) : two x y (l ++ m) = two x y l ++ two x y m := by simp [two]
theorem two_length (l : List α) : (two x y l).length = l.length * 2 := by
  induction l with
  | nil => rfl
  | cons a l ih => rw [two_cons]; simp [ih]; omega
theorem two_get (l : List α) (i : Nat) : (two x y l)[i * 2]? = (l[i]?).map x ∧ (two x y l)[i * 2 + 1]? = (l[i]?).map y := by
  induction l generalizing i with
  | nil => simp [two]
  | cons a l ih =>
    rw [two_cons]
    cases i with
    | zero => simp
    | succ i =>
      have h1 : (i + 1) * 2 = i * 2 + 1 + 1 := by omega
      have h2 : (i + 1) * 2 + 1 = i * 2 + 1 + 1 + 1 := by omega
      rw [h1]
      simpa using ih i
theorem two_set (l : List α) (i : Nat) (a : α) (h : i < l.length) : ((two x y l).set (i * 2) (x a)).set (i * 2 + 1) (y a) = two x y (l.set i a) := by
  induction l generalizing i with
  | nil => simp at h
  | cons b l ih =>
    rw [two_cons]
    cases i with
    | zero => simp [two_cons]
    | succ i =>
      have h1 : (i + 1) * 2 = i * 2 + 1 + 1 := by omega
      rw [h1]
      simp only [List.set_cons_succ, two_cons]
      rw [ih i (by simpa using h)]
/-- Where such a list lies. -/
def SeqAt (w : World) (ao : Option Addr) (l : List α) : Prop :=
  l = [] ∨ ∃ b off, ao = some ⟨b, off, none⟩ ∧ b < w.heap.size ∧ ∀ i a, l[i]? = some a → w.cell? ⟨b, off + i * 2, none⟩ = some (x a) ∧ w.cell? ⟨b, off + i * 2 + 1, none⟩ = some (y a)
/-- A row of the caller's own at the head of a block. -/
def RowAt (w : World) (g : Nat) (t : TypeId) (l : List α) : Prop := w.heap[g]? = some (.cells (two x y l).toArray t (0, 0))
variable {x y}
theorem SeqAt.below {w w' : World} {ao : Option Addr} {l : List α} (h : SeqAt x y w ao l) (hb : Below w.heap.size w w') : SeqAt x y w' ao l := by
  rcases h with h | ⟨b, off, h1, h2, h3⟩
  · exact Or.inl h
  · exact Or.inr ⟨b, off, h1, Nat.lt_of_lt_of_le h2 hb.size, fun i a hi => ⟨(hb.cell (p := ⟨b, off + i * 2, none⟩) h2).trans (h3 i a hi).1, (hb.cell (p := ⟨b, off + i * 2 + 1, none⟩) h2).trans (h3 i a hi).2⟩⟩
theorem RowAt.below {w w' : World} {g B : Nat} {t : TypeId} {l : List α} (h : RowAt x y w g t l) (hb : Below B w w') (hg : g < B) : RowAt x y w' g t l := Below.row hb h hg
theorem RowAt.lt {w : World} {g : Nat} {t : TypeId} {l : List α} (h : RowAt x y w g t l) : g < w.heap.size := lt_of_row h
theorem RowAt.cell {w : World} {g : Nat} {t : TypeId} {l : List α} (h : RowAt x y w g t l) {i : Nat} {a : α} (hi : l[i]? = some a) : w.cell? ⟨g, i * 2, none⟩ = some (x a) ∧ w.cell? ⟨g, i * 2 + 1, none⟩ = some (y a) := by
  have hg := two_get x y l i
  rw [hi] at hg
  exact ⟨by rw [cell_of_row _ _ _ _ _ _ h]; simpa using hg.1, by rw [cell_of_row _ _ _ _ _ _ h]; simpa using hg.2⟩
theorem RowAt.frozen {w : World} {g : Nat} {t : TypeId} {l : List α} (h : RowAt x y w g t l) (j : Nat) : w.frozen? ⟨g, j, none⟩ = false := frozen_of_row _ _ _ _ _ h
/-- A part of it at the head. -/
theorem RowAt.seq {w : World} {g : Nat} {t : TypeId} {l m : List α} (h : RowAt x y w g t (l ++ m)) : SeqAt x y w (some ⟨g, 0, none⟩) l := by
  refine Or.inr ⟨g, 0, rfl, h.lt, fun i a hi => ?_⟩
  have hi' : (l ++ m)[i]? = some a := by rw [List.getElem?_append_left (List.getElem?_eq_some_iff.1 hi).1]; exact hi
  simpa using h.cell hi'
/-- One thing is written. -/
theorem RowAt.store {w : World} {g : Nat} {t : TypeId} {l : List α} (h : RowAt x y w g t l) {i : Nat} (a : α) (hi : i < l.length) :
    RowAt x y ((w.setCell ⟨g, i * 2, none⟩ (x a)).setCell ⟨g, i * 2 + 1, none⟩ (y a)) g t (l.set i a) := by
  unfold RowAt at *
  rw [heap_setCell_same _ _ _ _ _ _ (heap_setCell_same _ _ _ _ _ _ h)]
  have := two_set x y l i a hi
  rw [← this]
  simp
theorem SeqAt.cells {w : World} {b off : Nat} {l : List α} (h : ∀ i a, l[i]? = some a → w.cell? ⟨b, off + i * 2, none⟩ = some (x a) ∧ w.cell? ⟨b, off + i * 2 + 1, none⟩ = some (y a)) (j : Nat) (v : Value) (hj : (two x y l)[j]? = some v) : w.cell? ⟨b, off + j, none⟩ = some v := by
  have e : j = (j / 2) * 2 ∨ j = (j / 2) * 2 + 1 := by omega
  have hlt : j < (two x y l).length := (List.getElem?_eq_some_iff.1 hj).1
  rw [two_length] at hlt
  have hi : l[j / 2]? = some l[j / 2] := List.getElem?_eq_getElem (by omega)
  have hg := two_get x y l (j / 2)
  have hc := h _ _ hi
  rw [hi] at hg
  rcases e with e | e
  · rw [← e] at hg
    rw [hg.1] at hj
    rw [← Option.some.inj hj]
    have := hc.1
    rwa [← e] at this
  · rw [← e] at hg
    rw [hg.2] at hj
    rw [← Option.some.inj hj]
    have := hc.2
    rwa [Nat.add_assoc, ← e] at this
end

/-- 'copy' of things of any number of cells into a row that is known whole. -/
theorem run_copy_rows {P : Program} (w : World) (dT sT ty elem : TypeId) (g dLen dCap : Nat) (sp : Option Addr) (sLen sCap sz : Nat) (cur : List Value) (t : TypeId) (cs : List Value)
    (hu : P.underlying dT = some (.slice elem)) (hs : (P.info? elem).map (·.size) = some sz) (hg : w.heap[g]? = some (.cells cur.toArray t (0, 0))) (hle : sLen ≤ dLen) (hn : cs.length = sLen * sz)
    (hsrc : cs = [] ∧ sLen = 0 ∨ ∃ a, sp = some a ∧ ∀ j v, cs[j]? = some v → w.cell? (a.add j) = some v) (hfit : cs.length ≤ cur.length) (h1 : ∀ v ∈ cs, v.oneCell' = true) :
    (Builtin.copy_ #[dT, sT] ty #[.slice (some ⟨g, 0, none⟩) dLen dCap, .slice sp sLen sCap]).run P w = .ok (goInt sLen) (w.setRow g (cs ++ cur.drop cs.length).toArray) := by
  have hmin : Nat.min sLen dLen = sLen := Nat.min_eq_left hle
  cases hq : P.info? elem with
  | none => simp [hq] at hs
  | some i =>
    have hi : i.size = sz := by simpa [hq] using hs
    rcases hsrc with ⟨rfl, rfl⟩ | ⟨a, rfl, hsrc⟩
    · have hself : w.setRow g ([] ++ cur.drop ([] : List Value).length).toArray = w := by
        simpa using setRow_self w g cur.toArray t (0, 0) hg
      rw [hself]
      have hl : ∀ (x : Addr), (loadCells x 0).run P w = .ok #[] w := fun x => by simpa using run_loadCells_list (P := P) w x [] (by simp)
      cases sp <;> simp [Builtin.copy_, run_underlying hu, Builtin.lenOf, Builtin.firstCells, sizeOf, typeInfo, hq, storeCells, hl, hmin]
    · have hl := run_loadCells_list (P := P) w a cs hsrc
      have hst := run_storeCells_at P g 0 t cs 0 cur.toArray w hg (by simpa using hfit) h1
      simp only [Nat.add_zero, Nat.zero_add, List.take_zero, List.nil_append] at hst
      rw [hn] at hl
      simp [Builtin.copy_, run_underlying hu, Builtin.lenOf, Builtin.firstCells, sizeOf, typeInfo, hq, hi, hl, hst, hmin]
theorem wpList_copy_rows {P : Program} {w : World} {ops : Array Oper} {rest : List Oper} {o : Oper} {a : Act} {Q : Exit → Act → World → Prop} (hgd : o.guard = none) (d s : Operand) (dT sT : TypeId)
    (ho : o.op = .call { callee := .builtin .copy, args := #[d, s], argTypes := #[dT, sT] }) (elem : TypeId) (sz : Nat) (hu : P.underlying dT = some (.slice elem)) (hsz : (P.info? elem).map (·.size) = some sz)
    (g dLen dCap : Nat) (sp : Option Addr) (sLen sCap : Nat) (hd : a.eval d = .slice (some ⟨g, 0, none⟩) dLen dCap) (hs : a.eval s = .slice sp sLen sCap)
    (cur : List Value) (t : TypeId) (hg : w.heap[g]? = some (.cells cur.toArray t (0, 0))) (cs : List Value) (hle : sLen ≤ dLen) (hn : cs.length = sLen * sz)
    (hsrc : cs = [] ∧ sLen = 0 ∨ ∃ a, sp = some a ∧ ∀ j v, cs[j]? = some v → w.cell? (a.add j) = some v) (hfit : cs.length ≤ cur.length) (h1 : ∀ v ∈ cs, v.oneCell' = true)
    (h : wpList P ops Q rest (a.put o.dst (goInt sLen)) (w.setRow g (cs ++ cur.drop cs.length).toArray)) : wpList P ops Q (o :: rest) a w := by
  refine wpList_plain hgd fun K hK => ?_
  have hrun := run_copy_rows (P := P) w dT sT o.type elem g dLen dCap sp sLen sCap sz cur t cs hu hsz hg hle hn hsrc hfit h1
  unfold Oper.wp
  simp [execOp, ho, resolve, invoke, builtin, hd, hs, hrun, Result.andThen]
  exact hK _ _ h
end Go.Proofs.YtgigkiocdiffjaaGreat
