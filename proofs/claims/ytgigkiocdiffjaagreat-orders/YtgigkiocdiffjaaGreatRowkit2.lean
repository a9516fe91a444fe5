/- A second kind of row. -/
import Derived.Test.YtgigkiocdiffjaaGreatRowkit
namespace Go.Proofs.YtgigkiocdiffjaaGreat
open Go.RowKit
@[go_sem] def wpPlain2 (P : Program) (o : Oper) (a : Act) (w : World) (K : Act → World → Prop) (Q : Exit → Act → World → Prop) : Prop := o.upon P a K Q ((execOp a.eval o).run P w)
abbrev RowLaw2 (P : Program) (N : TypeId → Nat) : Prop := ∀ (o : Oper) (a : Act) (w : World) (K : Act → World → Prop) (Q : Exit → Act → World → Prop),
    wpPlain P o a w K Q = @ite _ (N (loadTy o) ≠ 0 ∧ ptrIs w (a.eval (opFst o)) (N (loadTy o))) (Classical.propDecidable _) (K (a.put o.dst (.agg (rowAt w (blkOf (a.eval (opFst o)))))) w)
      (@ite _ (N (storeTy o) ≠ 0 ∧ ptrIs w (a.eval (opFst o)) (N (storeTy o)) ∧ isAggV (a.eval (opSnd o)) (N (storeTy o))) (Classical.propDecidable _) (K (a.put o.dst undef) (w.setRow (blkOf (a.eval (opFst o))) (aggOf (a.eval (opSnd o))))) (wpPlain2 P o a w K Q))
theorem row_law2 {P : Program} {N : TypeId → Nat} (hN : RowsOk P N) : RowLaw2 P N := fun o a w K Q => row_law hN o a w K Q
end Go.Proofs.YtgigkiocdiffjaaGreat
