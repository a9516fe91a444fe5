/-
  No cell of these rows narrows 'for every input' (looked for: loops, veiled, ifaces, maps, wideKeys, modest, calm, conditions, laid).
  DERIVED. THE GIVEN ROWS OF THIS SEAT. 4 by the template 'for every input the law returns true; each argument reads behind the call as it read before'; 0 by the template 'total and deterministic' (their statements: YtgigkiocdiffjabTotals.lean).
  GIVEN WITH THE SEED: the statements are not yours to turn. If you find one false, say at which input.
  Laid BY PROGRAM, IN A SANDBOX (cutbox-rows.mjs): the forced cells as the released guide's own fill.sh prints them over the translation d35b04db30d9fd23… (all of the seat's roots in one cut). By AI agents, Wed Nov 11 2026. No macro, syntax, notation, axiom, sorry.
-/
import Derived.Test.YtgigkiocdiffjabChecked
import GoSem.Claim
import GoSem.ClaimJoined
import GoSem.ClaimMapViews
import Derived.JoinedTies
import Derived.KernelRfl
namespace Go.Proofs.Ytgigkiocdiffjab
/- THE CELL 'sum', in the pinned program and in every row, IS THE sha256 OF THE DUMP (.gsa) THAT YtgigkiocdiffjabProg.lean LOADS. Nothing in Lean hashes anything: it is a label: what it is worth is what the hold of that sum in a sandbox is worth. -/
noncomputable def Try.pinned : Pinned := { name := "ytgigkiocdiffjab", sum := "d35b04db30d9fd238e5686fce22b27f1786ebad5293c950ee5c4a80b4a6cb6af", checked := Try.checked }
namespace Rows
def none {H : Type} : Left H := { results := [], args := [] }

/-- 'veilkeep.Undone': WHATEVER THE INPUT: true; the input reads as it did. -/
def undoneSpec : ChangeSpec := { name := "undone", fn := fun _ => fun
  | [d1, d2, d3, d4] => { results := [.lit (.bool true)], args := [d1, d2, d3, d4] }
  | _ => none }
def undoneRow : OpenClaim := { program := "ytgigkiocdiffjab", sum := "d35b04db30d9fd238e5686fce22b27f1786ebad5293c950ee5c4a80b4a6cb6af", func := "veil/veilkeep.Undone", spec := "undone", recurses := true, apart := false }
def UndoneSaid : Prop := undoneRow.holds Try.pinned (OpenSpec.ofChange undoneSpec)

/-- ITS FALSE NEIGHBOUR: 'it returns false'. Refute it at one input. -/
def undoneWrong : ChangeSpec := { name := "undone", fn := fun _ => fun
  | [d1, d2, d3, d4] => { results := [.lit (.bool false)], args := [d1, d2, d3, d4] }
  | _ => none }
def UndoneWrongFalsely : Prop := undoneRow.holds Try.pinned (OpenSpec.ofChange undoneWrong)

/-- 'veilkeep.Logged': WHATEVER THE INPUT: true; the input reads as it did. -/
def loggedSpec : ChangeSpec := { name := "logged", fn := fun _ => fun
  | [d] => { results := [.lit (.bool true)], args := [d] }
  | _ => none }
def loggedRow : OpenClaim := { program := "ytgigkiocdiffjab", sum := "d35b04db30d9fd238e5686fce22b27f1786ebad5293c950ee5c4a80b4a6cb6af", func := "veil/veilkeep.Logged", spec := "logged", recurses := true, apart := false }
def LoggedSaid : Prop := loggedRow.holds Try.pinned (OpenSpec.ofChange loggedSpec)

/-- ITS FALSE NEIGHBOUR: 'it returns false'. Refute it at one input. -/
def loggedWrong : ChangeSpec := { name := "logged", fn := fun _ => fun
  | [d] => { results := [.lit (.bool false)], args := [d] }
  | _ => none }
def LoggedWrongFalsely : Prop := loggedRow.holds Try.pinned (OpenSpec.ofChange loggedWrong)

/-- 'veilkeep.Purged': WHATEVER THE INPUT: true; the input reads as it did. -/
def purgedSpec : ChangeSpec := { name := "purged", fn := fun _ => fun
  | [d1, d2] => { results := [.lit (.bool true)], args := [d1, d2] }
  | _ => none }
def purgedRow : OpenClaim := { program := "ytgigkiocdiffjab", sum := "d35b04db30d9fd238e5686fce22b27f1786ebad5293c950ee5c4a80b4a6cb6af", func := "veil/veilkeep.Purged", spec := "purged", recurses := true, apart := false }
def PurgedSaid : Prop := purgedRow.holds Try.pinned (OpenSpec.ofChange purgedSpec)

/-- ITS FALSE NEIGHBOUR: 'it returns false'. Refute it at one input. -/
def purgedWrong : ChangeSpec := { name := "purged", fn := fun _ => fun
  | [d1, d2] => { results := [.lit (.bool false)], args := [d1, d2] }
  | _ => none }
def PurgedWrongFalsely : Prop := purgedRow.holds Try.pinned (OpenSpec.ofChange purgedWrong)

/-- 'veilkeep.Refused': WHATEVER THE INPUT: true; the input reads as it did. -/
def refusedSpec : ChangeSpec := { name := "refused", fn := fun _ => fun
  | [d1, d2] => { results := [.lit (.bool true)], args := [d1, d2] }
  | _ => none }
def refusedRow : OpenClaim := { program := "ytgigkiocdiffjab", sum := "d35b04db30d9fd238e5686fce22b27f1786ebad5293c950ee5c4a80b4a6cb6af", func := "veil/veilkeep.Refused", spec := "refused", recurses := true, apart := false }
def RefusedSaid : Prop := refusedRow.holds Try.pinned (OpenSpec.ofChange refusedSpec)

/-- ITS FALSE NEIGHBOUR: 'it returns false'. Refute it at one input. -/
def refusedWrong : ChangeSpec := { name := "refused", fn := fun _ => fun
  | [d1, d2] => { results := [.lit (.bool false)], args := [d1, d2] }
  | _ => none }
def RefusedWrongFalsely : Prop := refusedRow.holds Try.pinned (OpenSpec.ofChange refusedWrong)

/- THE SECOND FORM. 'bulk': how many values and letters a reading holds, each counted each time it is reached (what is shared counts as often as it is met; a slice's spare places count too). A statement '..UptoSaid' is the law's where the arguments, and the package variables that the reading takes, are together of bulk at most 1048576: NARROWER than '..Said'. Prove '..Said' where nothing that the law and all that it calls make is longer than what came in: it says more and counts as full. Else prove '..UptoSaid'. A law counts once. -/
mutual
def uptoBulk {H : Type} : DataW H → Nat
  | .lit (.string bytes) => bytes.length + 1
  | .lit _ => 1
  | .nil => 1
  | .ptr d => uptoBulk d + 1
  | .slice elems spare => uptoBulkAll elems + uptoBulkAll spare + 1
  | .agg parts => uptoBulkAll parts + 1
  | .iface _ d => uptoBulk d + 1
  | .map entries => uptoBulkEntries entries + 1
  | .held _ => 1
def uptoBulkAll {H : Type} : List (DataW H) → Nat
  | [] => 0
  | d :: r => uptoBulk d + uptoBulkAll r
def uptoBulkEntries {H : Type} : List (Lit × DataW H) → Nat
  | [] => 0
  | x :: r => uptoBulkEntry x + uptoBulkEntries r
def uptoBulkEntry {H : Type} : Lit × DataW H → Nat
  | (.string bytes, d) => bytes.length + uptoBulk d + 1
  | (_, d) => uptoBulk d + 1
 end
def uptoSmall : (H : Type) → List (DataW H) → Bool := fun _ ds => decide (uptoBulkAll ds ≤ 1048576)
def OpenSpec.upto (s : _root_.Go.ChangeSpec) : _root_.Go.OpenSpec := { _root_.Go.OpenSpec.ofChange s with cond := some uptoSmall }

/-- 'veilkeep.Undone', WHERE WHAT IT READS IS OF BULK AT MOST 1048576: true; the input reads as it did. -/
def undoneUptoRow : OpenClaim := { program := "ytgigkiocdiffjab", sum := "d35b04db30d9fd238e5686fce22b27f1786ebad5293c950ee5c4a80b4a6cb6af", func := "veil/veilkeep.Undone", spec := "undone", recurses := true, apart := false, narrowed := true }
def UndoneUptoSaid : Prop := undoneUptoRow.holds Try.pinned (OpenSpec.upto undoneSpec)

/-- 'veilkeep.Logged', WHERE WHAT IT READS IS OF BULK AT MOST 1048576: true; the input reads as it did. -/
def loggedUptoRow : OpenClaim := { program := "ytgigkiocdiffjab", sum := "d35b04db30d9fd238e5686fce22b27f1786ebad5293c950ee5c4a80b4a6cb6af", func := "veil/veilkeep.Logged", spec := "logged", recurses := true, apart := false, narrowed := true }
def LoggedUptoSaid : Prop := loggedUptoRow.holds Try.pinned (OpenSpec.upto loggedSpec)

/-- 'veilkeep.Purged', WHERE WHAT IT READS IS OF BULK AT MOST 1048576: true; the input reads as it did. -/
def purgedUptoRow : OpenClaim := { program := "ytgigkiocdiffjab", sum := "d35b04db30d9fd238e5686fce22b27f1786ebad5293c950ee5c4a80b4a6cb6af", func := "veil/veilkeep.Purged", spec := "purged", recurses := true, apart := false, narrowed := true }
def PurgedUptoSaid : Prop := purgedUptoRow.holds Try.pinned (OpenSpec.upto purgedSpec)

/-- 'veilkeep.Refused', WHERE WHAT IT READS IS OF BULK AT MOST 1048576: true; the input reads as it did. -/
def refusedUptoRow : OpenClaim := { program := "ytgigkiocdiffjab", sum := "d35b04db30d9fd238e5686fce22b27f1786ebad5293c950ee5c4a80b4a6cb6af", func := "veil/veilkeep.Refused", spec := "refused", recurses := true, apart := false, narrowed := true }
def RefusedUptoSaid : Prop := refusedUptoRow.holds Try.pinned (OpenSpec.upto refusedSpec)

end Rows
end Go.Proofs.Ytgigkiocdiffjab
