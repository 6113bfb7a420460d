/-
  No cell of these rows narrows 'for every input' (looked for: loops, veiled, ifaces, maps, wideKeys, modest, calm, conditions, laid).
  DERIVED. THE GIVEN ROWS OF THIS SEAT. 5 by the template 'for every input the law returns true; each argument reads behind the call as it read before'; 0 by the template 'total and deterministic' (their statements: YtpoejbfcioijhaaTotals.lean).
  GIVEN WITH THE SEED: the statements are not yours to turn. If you find one false, say at which input.
  Laid BY PROGRAM, IN A SANDBOX (cutbox-rows.mjs): the forced cells as the released guide's own fill.sh prints them over the translation b55046108262cfcb… (all of the seat's roots in one cut). By AI agents, Wed Nov 11 2026. No macro, syntax, notation, axiom, sorry.
-/
import Derived.Test.YtpoejbfcioijhaaChecked
import GoSem.Claim
import GoSem.ClaimJoined
import GoSem.ClaimMapViews
import Derived.JoinedTies
import Derived.KernelRfl
namespace Go.Proofs.Ytpoejbfcioijhaa
/- THE CELL 'sum', in the pinned program and in every row, IS THE sha256 OF THE DUMP (.gsa) THAT YtpoejbfcioijhaaProg.lean LOADS. Nothing in Lean hashes anything: it is a label: what it is worth is what the hold of that sum in a sandbox is worth. -/
noncomputable def Try.pinned : Pinned := { name := "ytpoejbfcioijhaa", sum := "b55046108262cfcbbcae4ceaa15cb8a484ae96e1517dbf96c18b6461e2dcaebb", checked := Try.checked }
namespace Rows
def none {H : Type} : Left H := { results := [], args := [] }

/-- 'thuriblelaw14.CostTells': WHATEVER THE INPUT: true; the input reads as it did. -/
def costTellsSpec : ChangeSpec := { name := "costTells", fn := fun _ => fun
  | [d1, d2, d3, d4] => { results := [.lit (.bool true)], args := [d1, d2, d3, d4] }
  | _ => none }
def costTellsRow : OpenClaim := { program := "ytpoejbfcioijhaa", sum := "b55046108262cfcbbcae4ceaa15cb8a484ae96e1517dbf96c18b6461e2dcaebb", func := "thurible/thuriblelaw14.CostTells", spec := "costTells", inPlace := ["internal/abi.NoEscape"], unfollowed := true, recurses := true, apart := false }
def CostTellsSaid : Prop := costTellsRow.holds Try.pinned (OpenSpec.ofChange costTellsSpec)

/-- ITS FALSE NEIGHBOUR: 'it returns false'. Refute it at one input. -/
def costTellsWrong : ChangeSpec := { name := "costTells", fn := fun _ => fun
  | [d1, d2, d3, d4] => { results := [.lit (.bool false)], args := [d1, d2, d3, d4] }
  | _ => none }
def CostTellsWrongFalsely : Prop := costTellsRow.holds Try.pinned (OpenSpec.ofChange costTellsWrong)

/-- 'thuriblelaw14.CostFair': WHATEVER THE INPUT: true; the input reads as it did. -/
def costFairSpec : ChangeSpec := { name := "costFair", fn := fun _ => fun
  | [d1, d2] => { results := [.lit (.bool true)], args := [d1, d2] }
  | _ => none }
def costFairRow : OpenClaim := { program := "ytpoejbfcioijhaa", sum := "b55046108262cfcbbcae4ceaa15cb8a484ae96e1517dbf96c18b6461e2dcaebb", func := "thurible/thuriblelaw14.CostFair", spec := "costFair", inPlace := ["internal/abi.NoEscape"], unfollowed := true, recurses := true, apart := false }
def CostFairSaid : Prop := costFairRow.holds Try.pinned (OpenSpec.ofChange costFairSpec)

/-- ITS FALSE NEIGHBOUR: 'it returns false'. Refute it at one input. -/
def costFairWrong : ChangeSpec := { name := "costFair", fn := fun _ => fun
  | [d1, d2] => { results := [.lit (.bool false)], args := [d1, d2] }
  | _ => none }
def CostFairWrongFalsely : Prop := costFairRow.holds Try.pinned (OpenSpec.ofChange costFairWrong)

/-- 'thuriblelaw14.CostLeast': WHATEVER THE INPUT: true; the input reads as it did. -/
def costLeastSpec : ChangeSpec := { name := "costLeast", fn := fun _ => fun
  | [d1, d2, d3] => { results := [.lit (.bool true)], args := [d1, d2, d3] }
  | _ => none }
def costLeastRow : OpenClaim := { program := "ytpoejbfcioijhaa", sum := "b55046108262cfcbbcae4ceaa15cb8a484ae96e1517dbf96c18b6461e2dcaebb", func := "thurible/thuriblelaw14.CostLeast", spec := "costLeast", inPlace := ["internal/abi.NoEscape"], unfollowed := true, recurses := true, apart := false }
def CostLeastSaid : Prop := costLeastRow.holds Try.pinned (OpenSpec.ofChange costLeastSpec)

/-- ITS FALSE NEIGHBOUR: 'it returns false'. Refute it at one input. -/
def costLeastWrong : ChangeSpec := { name := "costLeast", fn := fun _ => fun
  | [d1, d2, d3] => { results := [.lit (.bool false)], args := [d1, d2, d3] }
  | _ => none }
def CostLeastWrongFalsely : Prop := costLeastRow.holds Try.pinned (OpenSpec.ofChange costLeastWrong)

/-- 'thuriblelaw14.CostRight': WHATEVER THE INPUT: true; the input reads as it did. -/
def costRightSpec : ChangeSpec := { name := "costRight", fn := fun _ => fun
  | [d1, d2, d3] => { results := [.lit (.bool true)], args := [d1, d2, d3] }
  | _ => none }
def costRightRow : OpenClaim := { program := "ytpoejbfcioijhaa", sum := "b55046108262cfcbbcae4ceaa15cb8a484ae96e1517dbf96c18b6461e2dcaebb", func := "thurible/thuriblelaw14.CostRight", spec := "costRight", inPlace := ["internal/abi.NoEscape"], unfollowed := true, recurses := true, apart := false }
def CostRightSaid : Prop := costRightRow.holds Try.pinned (OpenSpec.ofChange costRightSpec)

/-- ITS FALSE NEIGHBOUR: 'it returns false'. Refute it at one input. -/
def costRightWrong : ChangeSpec := { name := "costRight", fn := fun _ => fun
  | [d1, d2, d3] => { results := [.lit (.bool false)], args := [d1, d2, d3] }
  | _ => none }
def CostRightWrongFalsely : Prop := costRightRow.holds Try.pinned (OpenSpec.ofChange costRightWrong)

/-- 'thuriblelaw14.CostOrder': WHATEVER THE INPUT: true; the input reads as it did. -/
def costOrderSpec : ChangeSpec := { name := "costOrder", fn := fun _ => fun
  | [d1, d2, d3] => { results := [.lit (.bool true)], args := [d1, d2, d3] }
  | _ => none }
def costOrderRow : OpenClaim := { program := "ytpoejbfcioijhaa", sum := "b55046108262cfcbbcae4ceaa15cb8a484ae96e1517dbf96c18b6461e2dcaebb", func := "thurible/thuriblelaw14.CostOrder", spec := "costOrder", inPlace := ["internal/abi.NoEscape"], unfollowed := true, recurses := true, apart := false }
def CostOrderSaid : Prop := costOrderRow.holds Try.pinned (OpenSpec.ofChange costOrderSpec)

/-- ITS FALSE NEIGHBOUR: 'it returns false'. Refute it at one input. -/
def costOrderWrong : ChangeSpec := { name := "costOrder", fn := fun _ => fun
  | [d1, d2, d3] => { results := [.lit (.bool false)], args := [d1, d2, d3] }
  | _ => none }
def CostOrderWrongFalsely : Prop := costOrderRow.holds Try.pinned (OpenSpec.ofChange costOrderWrong)

/- THE SECOND FORM. 'bulk': how many values and letters a reading holds, each counted each time it is reached (what is shared counts as often as it is met; a slice's spare places count too). A statement '..UptoSaid' is the law's where the arguments, and the package variables that the reading takes, are together of bulk at most 1048576: NARROWER than '..Said'. Prove '..Said' where nothing that the law and all that it calls make is longer than what came in: it says more and counts as full. Else prove '..UptoSaid'. A law counts once. -/
mutual
def uptoBulk {H : Type} : DataW H → Nat
  | .lit (.string bytes) => bytes.length + 1
  | .lit _ => 1
  | .nil => 1
  | .ptr d => uptoBulk d + 1
  | .slice elems spare => uptoBulkAll elems + uptoBulkAll spare + 1
  | .agg parts => uptoBulkAll parts + 1
  | .iface _ d => uptoBulk d + 1
  | .map entries => uptoBulkEntries entries + 1
  | .held _ => 1
def uptoBulkAll {H : Type} : List (DataW H) → Nat
  | [] => 0
  | d :: r => uptoBulk d + uptoBulkAll r
def uptoBulkEntries {H : Type} : List (Lit × DataW H) → Nat
  | [] => 0
  | x :: r => uptoBulkEntry x + uptoBulkEntries r
def uptoBulkEntry {H : Type} : Lit × DataW H → Nat
  | (.string bytes, d) => bytes.length + uptoBulk d + 1
  | (_, d) => uptoBulk d + 1
 end
def uptoSmall : (H : Type) → List (DataW H) → Bool := fun _ ds => decide (uptoBulkAll ds ≤ 1048576)
def OpenSpec.upto (s : _root_.Go.ChangeSpec) : _root_.Go.OpenSpec := { _root_.Go.OpenSpec.ofChange s with cond := some uptoSmall }

/-- 'thuriblelaw14.CostTells', WHERE WHAT IT READS IS OF BULK AT MOST 1048576: true; the input reads as it did. -/
def costTellsUptoRow : OpenClaim := { program := "ytpoejbfcioijhaa", sum := "b55046108262cfcbbcae4ceaa15cb8a484ae96e1517dbf96c18b6461e2dcaebb", func := "thurible/thuriblelaw14.CostTells", spec := "costTells", inPlace := ["internal/abi.NoEscape"], unfollowed := true, recurses := true, apart := false, narrowed := true }
def CostTellsUptoSaid : Prop := costTellsUptoRow.holds Try.pinned (OpenSpec.upto costTellsSpec)

/-- 'thuriblelaw14.CostFair', WHERE WHAT IT READS IS OF BULK AT MOST 1048576: true; the input reads as it did. -/
def costFairUptoRow : OpenClaim := { program := "ytpoejbfcioijhaa", sum := "b55046108262cfcbbcae4ceaa15cb8a484ae96e1517dbf96c18b6461e2dcaebb", func := "thurible/thuriblelaw14.CostFair", spec := "costFair", inPlace := ["internal/abi.NoEscape"], unfollowed := true, recurses := true, apart := false, narrowed := true }
def CostFairUptoSaid : Prop := costFairUptoRow.holds Try.pinned (OpenSpec.upto costFairSpec)

/-- 'thuriblelaw14.CostLeast', WHERE WHAT IT READS IS OF BULK AT MOST 1048576: true; the input reads as it did. -/
def costLeastUptoRow : OpenClaim := { program := "ytpoejbfcioijhaa", sum := "b55046108262cfcbbcae4ceaa15cb8a484ae96e1517dbf96c18b6461e2dcaebb", func := "thurible/thuriblelaw14.CostLeast", spec := "costLeast", inPlace := ["internal/abi.NoEscape"], unfollowed := true, recurses := true, apart := false, narrowed := true }
def CostLeastUptoSaid : Prop := costLeastUptoRow.holds Try.pinned (OpenSpec.upto costLeastSpec)

/-- 'thuriblelaw14.CostRight', WHERE WHAT IT READS IS OF BULK AT MOST 1048576: true; the input reads as it did. -/
def costRightUptoRow : OpenClaim := { program := "ytpoejbfcioijhaa", sum := "b55046108262cfcbbcae4ceaa15cb8a484ae96e1517dbf96c18b6461e2dcaebb", func := "thurible/thuriblelaw14.CostRight", spec := "costRight", inPlace := ["internal/abi.NoEscape"], unfollowed := true, recurses := true, apart := false, narrowed := true }
def CostRightUptoSaid : Prop := costRightUptoRow.holds Try.pinned (OpenSpec.upto costRightSpec)

/-- 'thuriblelaw14.CostOrder', WHERE WHAT IT READS IS OF BULK AT MOST 1048576: true; the input reads as it did. -/
def costOrderUptoRow : OpenClaim := { program := "ytpoejbfcioijhaa", sum := "b55046108262cfcbbcae4ceaa15cb8a484ae96e1517dbf96c18b6461e2dcaebb", func := "thurible/thuriblelaw14.CostOrder", spec := "costOrder", inPlace := ["internal/abi.NoEscape"], unfollowed := true, recurses := true, apart := false, narrowed := true }
def CostOrderUptoSaid : Prop := costOrderUptoRow.holds Try.pinned (OpenSpec.upto costOrderSpec)

end Rows
end Go.Proofs.Ytpoejbfcioijhaa
