/-
  No cell of these rows narrows 'for every input' (looked for: loops, veiled, ifaces, maps, wideKeys, modest, calm, conditions, laid).
  DERIVED. THE GIVEN ROWS OF THIS SEAT. 8 by the template 'for every input the law returns true; each argument reads behind the call as it read before'; 0 by the template 'total and deterministic' (their statements: YtmnjhhachdlmkaaGreatTotals.lean).
  GIVEN WITH THE SEED: the statements are not yours to turn. If you find one false, say at which input.
  Laid BY PROGRAM, IN A SANDBOX (cutbox-rows.mjs): the forced cells as the released guide's own fill.sh prints them over the translation 19203f95367958b8… (all of the seat's roots in one cut). By AI agents, Wed Nov 11 2026. No macro, syntax, notation, axiom, sorry.
-/
import Derived.Test.YtmnjhhachdlmkaaGreatChecked
import GoSem.Claim
import GoSem.ClaimJoined
import GoSem.ClaimMapViews
import Derived.JoinedTies
import Derived.KernelRfl
namespace Go.Proofs.YtmnjhhachdlmkaaGreat
/- THE CELL 'sum', in the pinned program and in every row, IS THE sha256 OF THE DUMP (.gsa) THAT YtmnjhhachdlmkaaGreatProg.lean LOADS. Nothing in Lean hashes anything: it is a label: what it is worth is what the hold of that sum in a sandbox is worth. -/
noncomputable def Tryz.pinned : Pinned := { name := "ytmnjhhachdlmkaagreat", sum := "19203f95367958b8d7636fbc08711279f8cc806134f022b5056cc5ba4cfe173c", checked := Tryz.checked }
namespace Rows
def none {H : Type} : Left H := { results := [], args := [] }

/-- 'dealerlaw.Asks': WHATEVER THE INPUT: true; the input reads as it did. -/
def asksSpec : ChangeSpec := { name := "asks", fn := fun _ => fun
  | [d] => { results := [.lit (.bool true)], args := [d] }
  | _ => none }
def asksRow : OpenClaim := { program := "ytmnjhhachdlmkaagreat", sum := "19203f95367958b8d7636fbc08711279f8cc806134f022b5056cc5ba4cfe173c", func := "dealer/dealerlaw.Asks", spec := "asks", inPlace := ["maps.clone"], unfollowed := true, recurses := true, apart := false }
def AsksSaid : Prop := asksRow.holds Tryz.pinned (OpenSpec.ofChange asksSpec)

/-- ITS FALSE NEIGHBOUR: 'it returns false'. Refute it at one input. -/
def asksWrong : ChangeSpec := { name := "asks", fn := fun _ => fun
  | [d] => { results := [.lit (.bool false)], args := [d] }
  | _ => none }
def AsksWrongFalsely : Prop := asksRow.holds Tryz.pinned (OpenSpec.ofChange asksWrong)

/-- 'dealerlaw.Serves': WHATEVER THE INPUT: true; the input reads as it did. -/
def servesSpec : ChangeSpec := { name := "serves", fn := fun _ => fun
  | [d] => { results := [.lit (.bool true)], args := [d] }
  | _ => none }
def servesRow : OpenClaim := { program := "ytmnjhhachdlmkaagreat", sum := "19203f95367958b8d7636fbc08711279f8cc806134f022b5056cc5ba4cfe173c", func := "dealer/dealerlaw.Serves", spec := "serves", inPlace := ["maps.clone"], unfollowed := true, recurses := true, apart := false }
def ServesSaid : Prop := servesRow.holds Tryz.pinned (OpenSpec.ofChange servesSpec)

/-- ITS FALSE NEIGHBOUR: 'it returns false'. Refute it at one input. -/
def servesWrong : ChangeSpec := { name := "serves", fn := fun _ => fun
  | [d] => { results := [.lit (.bool false)], args := [d] }
  | _ => none }
def ServesWrongFalsely : Prop := servesRow.holds Tryz.pinned (OpenSpec.ofChange servesWrong)

/-- 'dealerlaw.Fails': WHATEVER THE INPUT: true; the input reads as it did. -/
def failsSpec : ChangeSpec := { name := "fails", fn := fun _ => fun
  | [d] => { results := [.lit (.bool true)], args := [d] }
  | _ => none }
def failsRow : OpenClaim := { program := "ytmnjhhachdlmkaagreat", sum := "19203f95367958b8d7636fbc08711279f8cc806134f022b5056cc5ba4cfe173c", func := "dealer/dealerlaw.Fails", spec := "fails", inPlace := ["maps.clone"], unfollowed := true, recurses := true, apart := false }
def FailsSaid : Prop := failsRow.holds Tryz.pinned (OpenSpec.ofChange failsSpec)

/-- ITS FALSE NEIGHBOUR: 'it returns false'. Refute it at one input. -/
def failsWrong : ChangeSpec := { name := "fails", fn := fun _ => fun
  | [d] => { results := [.lit (.bool false)], args := [d] }
  | _ => none }
def FailsWrongFalsely : Prop := failsRow.holds Tryz.pinned (OpenSpec.ofChange failsWrong)

/-- 'dealerkeep.Once': WHATEVER THE INPUT: true; the input reads as it did. -/
def onceSpec : ChangeSpec := { name := "once", fn := fun _ => fun
  | [d] => { results := [.lit (.bool true)], args := [d] }
  | _ => none }
def onceRow : OpenClaim := { program := "ytmnjhhachdlmkaagreat", sum := "19203f95367958b8d7636fbc08711279f8cc806134f022b5056cc5ba4cfe173c", func := "dealer/dealerkeep.Once", spec := "once", inPlace := ["maps.clone"], unfollowed := true, recurses := true, apart := false }
def OnceSaid : Prop := onceRow.holds Tryz.pinned (OpenSpec.ofChange onceSpec)

/-- ITS FALSE NEIGHBOUR: 'it returns false'. Refute it at one input. -/
def onceWrong : ChangeSpec := { name := "once", fn := fun _ => fun
  | [d] => { results := [.lit (.bool false)], args := [d] }
  | _ => none }
def OnceWrongFalsely : Prop := onceRow.holds Tryz.pinned (OpenSpec.ofChange onceWrong)

/-- 'dealerkeep.Back': WHATEVER THE INPUT: true; the input reads as it did. -/
def backSpec : ChangeSpec := { name := "back", fn := fun _ => fun
  | [d1, d2, d3] => { results := [.lit (.bool true)], args := [d1, d2, d3] }
  | _ => none }
def backRow : OpenClaim := { program := "ytmnjhhachdlmkaagreat", sum := "19203f95367958b8d7636fbc08711279f8cc806134f022b5056cc5ba4cfe173c", func := "dealer/dealerkeep.Back", spec := "back", inPlace := ["maps.clone"], unfollowed := true, recurses := true, apart := false }
def BackSaid : Prop := backRow.holds Tryz.pinned (OpenSpec.ofChange backSpec)

/-- ITS FALSE NEIGHBOUR: 'it returns false'. Refute it at one input. -/
def backWrong : ChangeSpec := { name := "back", fn := fun _ => fun
  | [d1, d2, d3] => { results := [.lit (.bool false)], args := [d1, d2, d3] }
  | _ => none }
def BackWrongFalsely : Prop := backRow.holds Tryz.pinned (OpenSpec.ofChange backWrong)

/-- 'dealerkeep.Anything': WHATEVER THE INPUT: true; the input reads as it did. -/
def anythingSpec : ChangeSpec := { name := "anything", fn := fun _ => fun
  | [d1, d2] => { results := [.lit (.bool true)], args := [d1, d2] }
  | _ => none }
def anythingRow : OpenClaim := { program := "ytmnjhhachdlmkaagreat", sum := "19203f95367958b8d7636fbc08711279f8cc806134f022b5056cc5ba4cfe173c", func := "dealer/dealerkeep.Anything", spec := "anything", inPlace := ["maps.clone"], unfollowed := true, recurses := true, apart := false }
def AnythingSaid : Prop := anythingRow.holds Tryz.pinned (OpenSpec.ofChange anythingSpec)

/-- ITS FALSE NEIGHBOUR: 'it returns false'. Refute it at one input. -/
def anythingWrong : ChangeSpec := { name := "anything", fn := fun _ => fun
  | [d1, d2] => { results := [.lit (.bool false)], args := [d1, d2] }
  | _ => none }
def AnythingWrongFalsely : Prop := anythingRow.holds Tryz.pinned (OpenSpec.ofChange anythingWrong)

/-- 'dealerkeep.Bent': WHATEVER THE INPUT: true; the input reads as it did. -/
def bentSpec : ChangeSpec := { name := "bent", fn := fun _ => fun
  | [d1, d2, d3, d4, d5] => { results := [.lit (.bool true)], args := [d1, d2, d3, d4, d5] }
  | _ => none }
def bentRow : OpenClaim := { program := "ytmnjhhachdlmkaagreat", sum := "19203f95367958b8d7636fbc08711279f8cc806134f022b5056cc5ba4cfe173c", func := "dealer/dealerkeep.Bent", spec := "bent", inPlace := ["maps.clone"], unfollowed := true, recurses := true, apart := false }
def BentSaid : Prop := bentRow.holds Tryz.pinned (OpenSpec.ofChange bentSpec)

/-- ITS FALSE NEIGHBOUR: 'it returns false'. Refute it at one input. -/
def bentWrong : ChangeSpec := { name := "bent", fn := fun _ => fun
  | [d1, d2, d3, d4, d5] => { results := [.lit (.bool false)], args := [d1, d2, d3, d4, d5] }
  | _ => none }
def BentWrongFalsely : Prop := bentRow.holds Tryz.pinned (OpenSpec.ofChange bentWrong)

/-- 'dealerkeep.Refused': WHATEVER THE INPUT: true; the input reads as it did. -/
def refusedSpec : ChangeSpec := { name := "refused", fn := fun _ => fun
  | [d1, d2, d3] => { results := [.lit (.bool true)], args := [d1, d2, d3] }
  | _ => none }
def refusedRow : OpenClaim := { program := "ytmnjhhachdlmkaagreat", sum := "19203f95367958b8d7636fbc08711279f8cc806134f022b5056cc5ba4cfe173c", func := "dealer/dealerkeep.Refused", spec := "refused", inPlace := ["maps.clone"], unfollowed := true, recurses := true, apart := false }
def RefusedSaid : Prop := refusedRow.holds Tryz.pinned (OpenSpec.ofChange refusedSpec)

/-- ITS FALSE NEIGHBOUR: 'it returns false'. Refute it at one input. -/
def refusedWrong : ChangeSpec := { name := "refused", fn := fun _ => fun
  | [d1, d2, d3] => { results := [.lit (.bool false)], args := [d1, d2, d3] }
  | _ => none }
def RefusedWrongFalsely : Prop := refusedRow.holds Tryz.pinned (OpenSpec.ofChange refusedWrong)

/- THE SECOND FORM. 'bulk': how many values and letters a reading holds, each counted each time it is reached (what is shared counts as often as it is met; a slice's spare places count too). A statement '..UptoSaid' is the law's where the arguments, and the package variables that the reading takes, are together of bulk at most 1048576: NARROWER than '..Said'. Prove '..Said' where nothing that the law and all that it calls make is longer than what came in: it says more and counts as full. Else prove '..UptoSaid'. A law counts once. -/
mutual
def uptoBulk {H : Type} : DataW H → Nat
  | .lit (.string bytes) => bytes.length + 1
  | .lit _ => 1
  | .nil => 1
  | .ptr d => uptoBulk d + 1
  | .slice elems spare => uptoBulkAll elems + uptoBulkAll spare + 1
  | .agg parts => uptoBulkAll parts + 1
  | .iface _ d => uptoBulk d + 1
  | .map entries => uptoBulkEntries entries + 1
  | .held _ => 1
def uptoBulkAll {H : Type} : List (DataW H) → Nat
  | [] => 0
  | d :: r => uptoBulk d + uptoBulkAll r
def uptoBulkEntries {H : Type} : List (Lit × DataW H) → Nat
  | [] => 0
  | x :: r => uptoBulkEntry x + uptoBulkEntries r
def uptoBulkEntry {H : Type} : Lit × DataW H → Nat
  | (.string bytes, d) => bytes.length + uptoBulk d + 1
  | (_, d) => uptoBulk d + 1
 end
def uptoSmall : (H : Type) → List (DataW H) → Bool := fun _ ds => decide (uptoBulkAll ds ≤ 1048576)
def OpenSpec.upto (s : _root_.Go.ChangeSpec) : _root_.Go.OpenSpec := { _root_.Go.OpenSpec.ofChange s with cond := some uptoSmall }

/-- 'dealerlaw.Asks', WHERE WHAT IT READS IS OF BULK AT MOST 1048576: true; the input reads as it did. -/
def asksUptoRow : OpenClaim := { program := "ytmnjhhachdlmkaagreat", sum := "19203f95367958b8d7636fbc08711279f8cc806134f022b5056cc5ba4cfe173c", func := "dealer/dealerlaw.Asks", spec := "asks", inPlace := ["maps.clone"], unfollowed := true, recurses := true, apart := false, narrowed := true }
def AsksUptoSaid : Prop := asksUptoRow.holds Tryz.pinned (OpenSpec.upto asksSpec)

/-- 'dealerlaw.Serves', WHERE WHAT IT READS IS OF BULK AT MOST 1048576: true; the input reads as it did. -/
def servesUptoRow : OpenClaim := { program := "ytmnjhhachdlmkaagreat", sum := "19203f95367958b8d7636fbc08711279f8cc806134f022b5056cc5ba4cfe173c", func := "dealer/dealerlaw.Serves", spec := "serves", inPlace := ["maps.clone"], unfollowed := true, recurses := true, apart := false, narrowed := true }
def ServesUptoSaid : Prop := servesUptoRow.holds Tryz.pinned (OpenSpec.upto servesSpec)

/-- 'dealerlaw.Fails', WHERE WHAT IT READS IS OF BULK AT MOST 1048576: true; the input reads as it did. -/
def failsUptoRow : OpenClaim := { program := "ytmnjhhachdlmkaagreat", sum := "19203f95367958b8d7636fbc08711279f8cc806134f022b5056cc5ba4cfe173c", func := "dealer/dealerlaw.Fails", spec := "fails", inPlace := ["maps.clone"], unfollowed := true, recurses := true, apart := false, narrowed := true }
def FailsUptoSaid : Prop := failsUptoRow.holds Tryz.pinned (OpenSpec.upto failsSpec)

/-- 'dealerkeep.Once', WHERE WHAT IT READS IS OF BULK AT MOST 1048576: true; the input reads as it did. -/
def onceUptoRow : OpenClaim := { program := "ytmnjhhachdlmkaagreat", sum := "19203f95367958b8d7636fbc08711279f8cc806134f022b5056cc5ba4cfe173c", func := "dealer/dealerkeep.Once", spec := "once", inPlace := ["maps.clone"], unfollowed := true, recurses := true, apart := false, narrowed := true }
def OnceUptoSaid : Prop := onceUptoRow.holds Tryz.pinned (OpenSpec.upto onceSpec)

/-- 'dealerkeep.Back', WHERE WHAT IT READS IS OF BULK AT MOST 1048576: true; the input reads as it did. -/
def backUptoRow : OpenClaim := { program := "ytmnjhhachdlmkaagreat", sum := "19203f95367958b8d7636fbc08711279f8cc806134f022b5056cc5ba4cfe173c", func := "dealer/dealerkeep.Back", spec := "back", inPlace := ["maps.clone"], unfollowed := true, recurses := true, apart := false, narrowed := true }
def BackUptoSaid : Prop := backUptoRow.holds Tryz.pinned (OpenSpec.upto backSpec)

/-- 'dealerkeep.Anything', WHERE WHAT IT READS IS OF BULK AT MOST 1048576: true; the input reads as it did. -/
def anythingUptoRow : OpenClaim := { program := "ytmnjhhachdlmkaagreat", sum := "19203f95367958b8d7636fbc08711279f8cc806134f022b5056cc5ba4cfe173c", func := "dealer/dealerkeep.Anything", spec := "anything", inPlace := ["maps.clone"], unfollowed := true, recurses := true, apart := false, narrowed := true }
def AnythingUptoSaid : Prop := anythingUptoRow.holds Tryz.pinned (OpenSpec.upto anythingSpec)

/-- 'dealerkeep.Bent', WHERE WHAT IT READS IS OF BULK AT MOST 1048576: true; the input reads as it did. -/
def bentUptoRow : OpenClaim := { program := "ytmnjhhachdlmkaagreat", sum := "19203f95367958b8d7636fbc08711279f8cc806134f022b5056cc5ba4cfe173c", func := "dealer/dealerkeep.Bent", spec := "bent", inPlace := ["maps.clone"], unfollowed := true, recurses := true, apart := false, narrowed := true }
def BentUptoSaid : Prop := bentUptoRow.holds Tryz.pinned (OpenSpec.upto bentSpec)

/-- 'dealerkeep.Refused', WHERE WHAT IT READS IS OF BULK AT MOST 1048576: true; the input reads as it did. -/
def refusedUptoRow : OpenClaim := { program := "ytmnjhhachdlmkaagreat", sum := "19203f95367958b8d7636fbc08711279f8cc806134f022b5056cc5ba4cfe173c", func := "dealer/dealerkeep.Refused", spec := "refused", inPlace := ["maps.clone"], unfollowed := true, recurses := true, apart := false, narrowed := true }
def RefusedUptoSaid : Prop := refusedUptoRow.holds Tryz.pinned (OpenSpec.upto refusedSpec)

end Rows
end Go.Proofs.YtmnjhhachdlmkaaGreat
