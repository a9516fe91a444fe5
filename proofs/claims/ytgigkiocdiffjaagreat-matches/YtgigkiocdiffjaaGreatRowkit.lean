/- A whole array or struct that lies in a block of its own, read and written as one, also inside a region that draws its order. -/
import Derived.WalkKit
import Derived.Laws.Rows
import Derived.Laws.CopyOwn
import Derived.Deep.RegionWith
import Derived.Deep.QuietTactic
import Derived.BigQuiet
namespace Go.Proofs.YtgigkiocdiffjaaGreat
open Go.RowKit
/-- The cells of a block. -/
def rowAt (w : World) (g : Nat) : Array Value := match w.heap[g]? with
  | some (.cells cs _ _) => cs
  | _ => #[]
/-- The block is a row of n cells, all of which may be written. -/
def rowIs (w : World) (g n : Nat) : Prop := ∃ cs t, w.heap[g]? = some (.cells cs t (0, 0)) ∧ cs.size = n
/-- Cells that may be stored as one value of n cells. -/
def okRow (cs : Array Value) (n : Nat) : Prop := cs.size = n ∧ cs.all (·.oneCell') = true
/-- A pointer to the head of such a row. -/
def ptrIs (w : World) (v : Value) (n : Nat) : Prop := ∃ g, v = .pointer (some ⟨g, 0, none⟩) ∧ rowIs w g n
def blkOf : Value → Nat
  | .pointer (some a) => a.block
  | _ => 0
def aggOf : Value → Array Value
  | .agg cs => cs
  | _ => #[]
def isAggV (v : Value) (n : Nat) : Prop := ∃ cs, v = .agg cs ∧ okRow cs n

theorem rowIs_mk {w : World} {g n : Nat} {cs : Array Value} {t : TypeId} (h : w.heap[g]? = some (.cells cs t (0, 0))) (hn : cs.size = n) : rowIs w g n := ⟨cs, t, h, hn⟩
theorem rowAt_mk {w : World} {g : Nat} {cs : Array Value} {t : TypeId} {fr : Nat × Nat} (h : w.heap[g]? = some (.cells cs t fr)) : rowAt w g = cs := by simp [rowAt, h]
@[go_sem] theorem rowIs_drew (w : World) (g n : Nat) : rowIs w.drew g n = rowIs w g n := rfl
@[go_sem] theorem rowAt_drew (w : World) (g : Nat) : rowAt w.drew g = rowAt w g := rfl
@[go_sem] theorem ptrIs_ptr (w : World) (g n : Nat) : ptrIs w (.pointer (some ⟨g, 0, none⟩)) n = rowIs w g n := by
  simp [ptrIs]
@[go_sem] theorem blkOf_ptr (g : Nat) : blkOf (.pointer (some ⟨g, 0, none⟩)) = g := rfl
@[go_sem] theorem aggOf_agg (cs : Array Value) : aggOf (.agg cs) = cs := rfl
@[go_sem] theorem isAggV_agg (cs : Array Value) (n : Nat) : isAggV (.agg cs) n = okRow cs n := by simp [isAggV]

/-- The type of what an operation loads or stores (0: it does neither); its operands. -/
@[go_sem] def loadTy (o : Oper) : TypeId := match o.op with
  | .load t _ => t
  | _ => 0
@[go_sem] def storeTy (o : Oper) : TypeId := match o.op with
  | .store t _ _ => t
  | _ => 0
@[go_sem] def opFst (o : Oper) : Operand := match o.op with
  | .load _ x => x
  | .store _ x _ => x
  | _ => .tmp 0
@[go_sem] def opSnd (o : Oper) : Operand := match o.op with
  | .store _ _ y => y
  | _ => .tmp 0
def isRowD : TypeDesc → Bool
  | .struct _ => true
  | .array _ _ => true
  | _ => false
/-- N: of how many cells a type is that is read and written whole (0: it is none of those). -/
def RowsOk (P : Program) (N : TypeId → Nat) : Prop := N 0 = 0 ∧ ∀ ty, N ty ≠ 0 → ∃ d, P.underlying ty = some d ∧ isRowD d = true ∧ (P.info? ty).map (·.size) = some (N ty)
/-- 'Oper.wp' under another name. -/
@[go_sem] def wpPlain (P : Program) (o : Oper) (a : Act) (w : World) (K : Act → World → Prop) (Q : Exit → Act → World → Prop) : Prop := o.upon P a K Q ((execOp a.eval o).run P w)
abbrev RowLaw (P : Program) (N : TypeId → Nat) : Prop := ∀ (o : Oper) (a : Act) (w : World) (K : Act → World → Prop) (Q : Exit → Act → World → Prop),
    Oper.wp P o a w K Q = @ite _ (N (loadTy o) ≠ 0 ∧ ptrIs w (a.eval (opFst o)) (N (loadTy o))) (Classical.propDecidable _) (K (a.put o.dst (.agg (rowAt w (blkOf (a.eval (opFst o)))))) w)
      (@ite _ (N (storeTy o) ≠ 0 ∧ ptrIs w (a.eval (opFst o)) (N (storeTy o)) ∧ isAggV (a.eval (opSnd o)) (N (storeTy o))) (Classical.propDecidable _) (K (a.put o.dst undef) (w.setRow (blkOf (a.eval (opFst o))) (aggOf (a.eval (opSnd o))))) (wpPlain P o a w K Q))
theorem loadTy_spec {o : Oper} (h : loadTy o ≠ 0) : o.op = .load (loadTy o) (opFst o) := by
  unfold loadTy opFst at *; split at h <;> simp_all
theorem storeTy_spec {o : Oper} (h : storeTy o ≠ 0) : o.op = .store (storeTy o) (opFst o) (opSnd o) := by
  unfold storeTy opFst opSnd at *; split at h <;> simp_all
theorem row_law {P : Program} {N : TypeId → Nat} (hN : RowsOk P N) : RowLaw P N := by
  intro o a w K Q
  split
  · rename_i h
    obtain ⟨h0, g, hg, cs, t', h1, h2⟩ := h
    obtain ⟨d, hu, hd, hi⟩ := hN.2 _ h0
    have ho := loadTy_spec (o := o) (fun e => h0 (by rw [e]; exact hN.1))
    generalize loadTy o = ty at *
    generalize opFst o = x at *
    unfold Oper.wp execOp
    simp only [ho]
    simp only [hg, Instr.loadAt, Instr.sureAddr, Sem.run_bind, Sem.run_pure, Result.andThen_ok, blkOf_ptr, rowAt_mk h1, run_loadVar_row w g t' ty cs (0, 0) d h1 hu (by cases d <;> first | rfl | simp [isRowD] at hd) (by rw [hi, h2])]
    rfl
  · split
    · rename_i _ h
      obtain ⟨h0, ⟨g, hg, old, t', h1, h2⟩, cs, hcs, h3, h4⟩ := h
      obtain ⟨d, hu, hd, hi⟩ := hN.2 _ h0
      have ho := storeTy_spec (o := o) (fun e => h0 (by rw [e]; exact hN.1))
      generalize storeTy o = ty at *
      generalize opFst o = x at *
      generalize opSnd o = y at *
      unfold Oper.wp execOp
      simp only [ho]
      simp only [hg, hcs, Instr.storeAt, Instr.sureAddr, Sem.run_bind, Sem.run_pure, Result.andThen_ok, blkOf_ptr, aggOf_agg, run_storeVar_row w g t' ty old cs h1 (by rw [hi, h3]) (by rw [h2, h3]) h4]
      rfl
    · rfl
theorem Below.drawn {B : Nat} {a w : World} (h : Below B a w) (n : Nat) : Below B a (w.drewN n) := ⟨h.os, h.tape, h.output, h.size, h.block⟩
theorem Below.row {B : Nat} {w w' : World} {g : Nat} {o : Obj} (hb : Below B w w') (h : w.heap[g]? = some o) (hg : g < B) : w'.heap[g]? = some o := (hb.block g hg).trans h
theorem row_other {w : World} {g g' j : Nat} {v : Value} {o : Obj} (h : w.heap[g]? = some o) (hne : g ≠ g') : (w.setCell ⟨g', j, none⟩ v).heap[g]? = some o := by
  rw [heap_setCell_other _ _ _ _ hne]; exact h
theorem lt_of_row {w : World} {g : Nat} {o : Obj} (h : w.heap[g]? = some o) : g < w.heap.size := (Array.getElem?_eq_some_iff.1 h).1
theorem row_alloc' {w : World} {g : Nat} {o o' : Obj} (h : w.heap[g]? = some o) : (w.alloc o').heap[g]? = some o := (heap_alloc_old _ _ (lt_of_row h)).trans h
end Go.Proofs.YtgigkiocdiffjaaGreat
