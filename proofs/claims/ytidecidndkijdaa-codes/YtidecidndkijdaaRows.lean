/-
  No cell of these rows narrows 'for every input' (looked for: loops, veiled, ifaces, maps, wideKeys, modest, calm, conditions, laid).
  DERIVED. THE GIVEN ROWS OF THIS SEAT. 5 by the template 'for every input the law returns true; each argument reads behind the call as it read before'; 0 by the template 'total and deterministic' (their statements: YtidecidndkijdaaTotals.lean).
  GIVEN WITH THE SEED: the statements are not yours to turn. If you find one false, say at which input.
  Laid BY PROGRAM, IN A SANDBOX (cutbox-rows.mjs): the forced cells as the released guide's own fill.sh prints them over the translation c3369cfb1330587f… (all of the seat's roots in one cut). By AI agents, Wed Nov 11 2026. No macro, syntax, notation, axiom, sorry.
-/
import Derived.Test.YtidecidndkijdaaChecked
import GoSem.Claim
import GoSem.ClaimJoined
import GoSem.ClaimMapViews
import Derived.JoinedTies
import Derived.KernelRfl
namespace Go.Proofs.Ytidecidndkijdaa
/- THE CELL 'sum', in the pinned program and in every row, IS THE sha256 OF THE DUMP (.gsa) THAT YtidecidndkijdaaProg.lean LOADS. Nothing in Lean hashes anything: it is a label: what it is worth is what the hold of that sum in a sandbox is worth. -/
noncomputable def Try.pinned : Pinned := { name := "ytidecidndkijdaa", sum := "c3369cfb1330587faf42a9accca46dfcce13ee77c1ba6cc33191436d855b0687", checked := Try.checked }
namespace Rows
def none {H : Type} : Left H := { results := [], args := [] }

/-- 'dealerlaw.Codes': WHATEVER THE INPUT: true; the input reads as it did. -/
def codesSpec : ChangeSpec := { name := "codes", fn := fun _ => fun
  | [d1, d2, d3] => { results := [.lit (.bool true)], args := [d1, d2, d3] }
  | _ => none }
def codesRow : OpenClaim := { program := "ytidecidndkijdaa", sum := "c3369cfb1330587faf42a9accca46dfcce13ee77c1ba6cc33191436d855b0687", func := "dealer/dealerlaw.Codes", spec := "codes", unfollowed := true, recurses := true, apart := false }
def CodesSaid : Prop := codesRow.holds Try.pinned (OpenSpec.ofChange codesSpec)

/-- ITS FALSE NEIGHBOUR: 'it returns false'. Refute it at one input. -/
def codesWrong : ChangeSpec := { name := "codes", fn := fun _ => fun
  | [d1, d2, d3] => { results := [.lit (.bool false)], args := [d1, d2, d3] }
  | _ => none }
def CodesWrongFalsely : Prop := codesRow.holds Try.pinned (OpenSpec.ofChange codesWrong)

/-- 'dealerkeep.Adds': WHATEVER THE INPUT: true; the input reads as it did. -/
def addsSpec : ChangeSpec := { name := "adds", fn := fun _ => fun
  | [d1, d2] => { results := [.lit (.bool true)], args := [d1, d2] }
  | _ => none }
def addsRow : OpenClaim := { program := "ytidecidndkijdaa", sum := "c3369cfb1330587faf42a9accca46dfcce13ee77c1ba6cc33191436d855b0687", func := "dealer/dealerkeep.Adds", spec := "adds", unfollowed := true, recurses := true, apart := false }
def AddsSaid : Prop := addsRow.holds Try.pinned (OpenSpec.ofChange addsSpec)

/-- ITS FALSE NEIGHBOUR: 'it returns false'. Refute it at one input. -/
def addsWrong : ChangeSpec := { name := "adds", fn := fun _ => fun
  | [d1, d2] => { results := [.lit (.bool false)], args := [d1, d2] }
  | _ => none }
def AddsWrongFalsely : Prop := addsRow.holds Try.pinned (OpenSpec.ofChange addsWrong)

/-- 'dealerkeep.Hides': WHATEVER THE INPUT: true; the input reads as it did. -/
def hidesSpec : ChangeSpec := { name := "hides", fn := fun _ => fun
  | [d1, d2, d3, d4] => { results := [.lit (.bool true)], args := [d1, d2, d3, d4] }
  | _ => none }
def hidesRow : OpenClaim := { program := "ytidecidndkijdaa", sum := "c3369cfb1330587faf42a9accca46dfcce13ee77c1ba6cc33191436d855b0687", func := "dealer/dealerkeep.Hides", spec := "hides", unfollowed := true, recurses := true, apart := false }
def HidesSaid : Prop := hidesRow.holds Try.pinned (OpenSpec.ofChange hidesSpec)

/-- ITS FALSE NEIGHBOUR: 'it returns false'. Refute it at one input. -/
def hidesWrong : ChangeSpec := { name := "hides", fn := fun _ => fun
  | [d1, d2, d3, d4] => { results := [.lit (.bool false)], args := [d1, d2, d3, d4] }
  | _ => none }
def HidesWrongFalsely : Prop := hidesRow.holds Try.pinned (OpenSpec.ofChange hidesWrong)

/-- 'dealerkeep.Anything': WHATEVER THE INPUT: true; the input reads as it did. -/
def anythingSpec : ChangeSpec := { name := "anything", fn := fun _ => fun
  | [d1, d2] => { results := [.lit (.bool true)], args := [d1, d2] }
  | _ => none }
def anythingRow : OpenClaim := { program := "ytidecidndkijdaa", sum := "c3369cfb1330587faf42a9accca46dfcce13ee77c1ba6cc33191436d855b0687", func := "dealer/dealerkeep.Anything", spec := "anything", unfollowed := true, recurses := true, apart := false }
def AnythingSaid : Prop := anythingRow.holds Try.pinned (OpenSpec.ofChange anythingSpec)

/-- ITS FALSE NEIGHBOUR: 'it returns false'. Refute it at one input. -/
def anythingWrong : ChangeSpec := { name := "anything", fn := fun _ => fun
  | [d1, d2] => { results := [.lit (.bool false)], args := [d1, d2] }
  | _ => none }
def AnythingWrongFalsely : Prop := anythingRow.holds Try.pinned (OpenSpec.ofChange anythingWrong)

/-- 'dealerkeep.Bent': WHATEVER THE INPUT: true; the input reads as it did. -/
def bentSpec : ChangeSpec := { name := "bent", fn := fun _ => fun
  | [d1, d2, d3, d4, d5] => { results := [.lit (.bool true)], args := [d1, d2, d3, d4, d5] }
  | _ => none }
def bentRow : OpenClaim := { program := "ytidecidndkijdaa", sum := "c3369cfb1330587faf42a9accca46dfcce13ee77c1ba6cc33191436d855b0687", func := "dealer/dealerkeep.Bent", spec := "bent", unfollowed := true, recurses := true, apart := false }
def BentSaid : Prop := bentRow.holds Try.pinned (OpenSpec.ofChange bentSpec)

/-- ITS FALSE NEIGHBOUR: 'it returns false'. Refute it at one input. -/
def bentWrong : ChangeSpec := { name := "bent", fn := fun _ => fun
  | [d1, d2, d3, d4, d5] => { results := [.lit (.bool false)], args := [d1, d2, d3, d4, d5] }
  | _ => none }
def BentWrongFalsely : Prop := bentRow.holds Try.pinned (OpenSpec.ofChange bentWrong)

/- THE SECOND FORM. 'bulk': how many values and letters a reading holds, each counted each time it is reached (what is shared counts as often as it is met; a slice's spare places count too). A statement '..UptoSaid' is the law's where the arguments, and the package variables that the reading takes, are together of bulk at most 1048576: NARROWER than '..Said'. Prove '..Said' where nothing that the law and all that it calls make is longer than what came in: it says more and counts as full. Else prove '..UptoSaid'. A law counts once. -/
mutual
def uptoBulk {H : Type} : DataW H → Nat
  | .lit (.string bytes) => bytes.length + 1
  | .lit _ => 1
  | .nil => 1
  | .ptr d => uptoBulk d + 1
  | .slice elems spare => uptoBulkAll elems + uptoBulkAll spare + 1
  | .agg parts => uptoBulkAll parts + 1
  | .iface _ d => uptoBulk d + 1
  | .map entries => uptoBulkEntries entries + 1
  | .held _ => 1
def uptoBulkAll {H : Type} : List (DataW H) → Nat
  | [] => 0
  | d :: r => uptoBulk d + uptoBulkAll r
def uptoBulkEntries {H : Type} : List (Lit × DataW H) → Nat
  | [] => 0
  | x :: r => uptoBulkEntry x + uptoBulkEntries r
def uptoBulkEntry {H : Type} : Lit × DataW H → Nat
  | (.string bytes, d) => bytes.length + uptoBulk d + 1
  | (_, d) => uptoBulk d + 1
 end
def uptoSmall : (H : Type) → List (DataW H) → Bool := fun _ ds => decide (uptoBulkAll ds ≤ 1048576)
def OpenSpec.upto (s : _root_.Go.ChangeSpec) : _root_.Go.OpenSpec := { _root_.Go.OpenSpec.ofChange s with cond := some uptoSmall }

/-- 'dealerlaw.Codes', WHERE WHAT IT READS IS OF BULK AT MOST 1048576: true; the input reads as it did. -/
def codesUptoRow : OpenClaim := { program := "ytidecidndkijdaa", sum := "c3369cfb1330587faf42a9accca46dfcce13ee77c1ba6cc33191436d855b0687", func := "dealer/dealerlaw.Codes", spec := "codes", unfollowed := true, recurses := true, apart := false, narrowed := true }
def CodesUptoSaid : Prop := codesUptoRow.holds Try.pinned (OpenSpec.upto codesSpec)

/-- 'dealerkeep.Adds', WHERE WHAT IT READS IS OF BULK AT MOST 1048576: true; the input reads as it did. -/
def addsUptoRow : OpenClaim := { program := "ytidecidndkijdaa", sum := "c3369cfb1330587faf42a9accca46dfcce13ee77c1ba6cc33191436d855b0687", func := "dealer/dealerkeep.Adds", spec := "adds", unfollowed := true, recurses := true, apart := false, narrowed := true }
def AddsUptoSaid : Prop := addsUptoRow.holds Try.pinned (OpenSpec.upto addsSpec)

/-- 'dealerkeep.Hides', WHERE WHAT IT READS IS OF BULK AT MOST 1048576: true; the input reads as it did. -/
def hidesUptoRow : OpenClaim := { program := "ytidecidndkijdaa", sum := "c3369cfb1330587faf42a9accca46dfcce13ee77c1ba6cc33191436d855b0687", func := "dealer/dealerkeep.Hides", spec := "hides", unfollowed := true, recurses := true, apart := false, narrowed := true }
def HidesUptoSaid : Prop := hidesUptoRow.holds Try.pinned (OpenSpec.upto hidesSpec)

/-- 'dealerkeep.Anything', WHERE WHAT IT READS IS OF BULK AT MOST 1048576: true; the input reads as it did. -/
def anythingUptoRow : OpenClaim := { program := "ytidecidndkijdaa", sum := "c3369cfb1330587faf42a9accca46dfcce13ee77c1ba6cc33191436d855b0687", func := "dealer/dealerkeep.Anything", spec := "anything", unfollowed := true, recurses := true, apart := false, narrowed := true }
def AnythingUptoSaid : Prop := anythingUptoRow.holds Try.pinned (OpenSpec.upto anythingSpec)

/-- 'dealerkeep.Bent', WHERE WHAT IT READS IS OF BULK AT MOST 1048576: true; the input reads as it did. -/
def bentUptoRow : OpenClaim := { program := "ytidecidndkijdaa", sum := "c3369cfb1330587faf42a9accca46dfcce13ee77c1ba6cc33191436d855b0687", func := "dealer/dealerkeep.Bent", spec := "bent", unfollowed := true, recurses := true, apart := false, narrowed := true }
def BentUptoSaid : Prop := bentUptoRow.holds Try.pinned (OpenSpec.upto bentSpec)

end Rows
end Go.Proofs.Ytidecidndkijdaa
