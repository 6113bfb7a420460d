/-
  No cell of these rows narrows 'for every input' (looked for: loops, veiled, ifaces, maps, wideKeys, modest, calm, conditions, laid).
  DERIVED. THE GIVEN ROWS OF THIS SEAT. 4 by the template 'for every input the law returns true; each argument reads behind the call as it read before'; 0 by the template 'total and deterministic' (their statements: YtjfhmnamiipgbaaTotals.lean).
  GIVEN WITH THE SEED: the statements are not yours to turn. If you find one false, say at which input.
  Laid BY PROGRAM, IN A SANDBOX (cutbox-rows.mjs): the forced cells as the released guide's own fill.sh prints them over the translation 3ecf8129323ec9ee… (all of the seat's roots in one cut). By AI agents, Wed Nov 11 2026. No macro, syntax, notation, axiom, sorry.
-/
import Derived.Test.YtjfhmnamiipgbaaChecked
import GoSem.Claim
import GoSem.ClaimJoined
import GoSem.ClaimMapViews
import Derived.JoinedTies
import Derived.KernelRfl
namespace Go.Proofs.Ytjfhmnamiipgbaa
/- THE CELL 'sum', in the pinned program and in every row, IS THE sha256 OF THE DUMP (.gsa) THAT YtjfhmnamiipgbaaProg.lean LOADS. Nothing in Lean hashes anything: it is a label: what it is worth is what the hold of that sum in a sandbox is worth. -/
noncomputable def Try.pinned : Pinned := { name := "ytjfhmnamiipgbaa", sum := "3ecf8129323ec9ee76047b3b4f9ad4357d3fcaa5cb21ba4785f1740fbcba3ab8", checked := Try.checked }
namespace Rows
def none {H : Type} : Left H := { results := [], args := [] }

/-- 'thuriblelaw12.ExpiryTells': WHATEVER THE INPUT: true; the input reads as it did. -/
def expiryTellsSpec : ChangeSpec := { name := "expiryTells", fn := fun _ => fun
  | [d1, d2] => { results := [.lit (.bool true)], args := [d1, d2] }
  | _ => none }
def expiryTellsRow : OpenClaim := { program := "ytjfhmnamiipgbaa", sum := "3ecf8129323ec9ee76047b3b4f9ad4357d3fcaa5cb21ba4785f1740fbcba3ab8", func := "thurible/thuriblelaw12.ExpiryTells", spec := "expiryTells", unfollowed := true, recurses := true, apart := false }
def ExpiryTellsSaid : Prop := expiryTellsRow.holds Try.pinned (OpenSpec.ofChange expiryTellsSpec)

/-- ITS FALSE NEIGHBOUR: 'it returns false'. Refute it at one input. -/
def expiryTellsWrong : ChangeSpec := { name := "expiryTells", fn := fun _ => fun
  | [d1, d2] => { results := [.lit (.bool false)], args := [d1, d2] }
  | _ => none }
def ExpiryTellsWrongFalsely : Prop := expiryTellsRow.holds Try.pinned (OpenSpec.ofChange expiryTellsWrong)

/-- 'thuriblelaw12.ExpiryStays': WHATEVER THE INPUT: true; the input reads as it did. -/
def expiryStaysSpec : ChangeSpec := { name := "expiryStays", fn := fun _ => fun
  | [d1, d2, d3] => { results := [.lit (.bool true)], args := [d1, d2, d3] }
  | _ => none }
def expiryStaysRow : OpenClaim := { program := "ytjfhmnamiipgbaa", sum := "3ecf8129323ec9ee76047b3b4f9ad4357d3fcaa5cb21ba4785f1740fbcba3ab8", func := "thurible/thuriblelaw12.ExpiryStays", spec := "expiryStays", unfollowed := true, recurses := true, apart := false }
def ExpiryStaysSaid : Prop := expiryStaysRow.holds Try.pinned (OpenSpec.ofChange expiryStaysSpec)

/-- ITS FALSE NEIGHBOUR: 'it returns false'. Refute it at one input. -/
def expiryStaysWrong : ChangeSpec := { name := "expiryStays", fn := fun _ => fun
  | [d1, d2, d3] => { results := [.lit (.bool false)], args := [d1, d2, d3] }
  | _ => none }
def ExpiryStaysWrongFalsely : Prop := expiryStaysRow.holds Try.pinned (OpenSpec.ofChange expiryStaysWrong)

/-- 'thuriblelaw12.ExpiryCounts': WHATEVER THE INPUT: true; the input reads as it did. -/
def expiryCountsSpec : ChangeSpec := { name := "expiryCounts", fn := fun _ => fun
  | [d1, d2] => { results := [.lit (.bool true)], args := [d1, d2] }
  | _ => none }
def expiryCountsRow : OpenClaim := { program := "ytjfhmnamiipgbaa", sum := "3ecf8129323ec9ee76047b3b4f9ad4357d3fcaa5cb21ba4785f1740fbcba3ab8", func := "thurible/thuriblelaw12.ExpiryCounts", spec := "expiryCounts", unfollowed := true, recurses := true, apart := false }
def ExpiryCountsSaid : Prop := expiryCountsRow.holds Try.pinned (OpenSpec.ofChange expiryCountsSpec)

/-- ITS FALSE NEIGHBOUR: 'it returns false'. Refute it at one input. -/
def expiryCountsWrong : ChangeSpec := { name := "expiryCounts", fn := fun _ => fun
  | [d1, d2] => { results := [.lit (.bool false)], args := [d1, d2] }
  | _ => none }
def ExpiryCountsWrongFalsely : Prop := expiryCountsRow.holds Try.pinned (OpenSpec.ofChange expiryCountsWrong)

/-- 'thuriblelaw12.ExpiryNever': WHATEVER THE INPUT: true; the input reads as it did. -/
def expiryNeverSpec : ChangeSpec := { name := "expiryNever", fn := fun _ => fun
  | [d1, d2] => { results := [.lit (.bool true)], args := [d1, d2] }
  | _ => none }
def expiryNeverRow : OpenClaim := { program := "ytjfhmnamiipgbaa", sum := "3ecf8129323ec9ee76047b3b4f9ad4357d3fcaa5cb21ba4785f1740fbcba3ab8", func := "thurible/thuriblelaw12.ExpiryNever", spec := "expiryNever", unfollowed := true, recurses := true, apart := false }
def ExpiryNeverSaid : Prop := expiryNeverRow.holds Try.pinned (OpenSpec.ofChange expiryNeverSpec)

/-- ITS FALSE NEIGHBOUR: 'it returns false'. Refute it at one input. -/
def expiryNeverWrong : ChangeSpec := { name := "expiryNever", fn := fun _ => fun
  | [d1, d2] => { results := [.lit (.bool false)], args := [d1, d2] }
  | _ => none }
def ExpiryNeverWrongFalsely : Prop := expiryNeverRow.holds Try.pinned (OpenSpec.ofChange expiryNeverWrong)

/- THE SECOND FORM. 'bulk': how many values and letters a reading holds, each counted each time it is reached (what is shared counts as often as it is met; a slice's spare places count too). A statement '..UptoSaid' is the law's where the arguments, and the package variables that the reading takes, are together of bulk at most 1048576: NARROWER than '..Said'. Prove '..Said' where nothing that the law and all that it calls make is longer than what came in: it says more and counts as full. Else prove '..UptoSaid'. A law counts once. -/
mutual
def uptoBulk {H : Type} : DataW H → Nat
  | .lit (.string bytes) => bytes.length + 1
  | .lit _ => 1
  | .nil => 1
  | .ptr d => uptoBulk d + 1
  | .slice elems spare => uptoBulkAll elems + uptoBulkAll spare + 1
  | .agg parts => uptoBulkAll parts + 1
  | .iface _ d => uptoBulk d + 1
  | .map entries => uptoBulkEntries entries + 1
  | .held _ => 1
def uptoBulkAll {H : Type} : List (DataW H) → Nat
  | [] => 0
  | d :: r => uptoBulk d + uptoBulkAll r
def uptoBulkEntries {H : Type} : List (Lit × DataW H) → Nat
  | [] => 0
  | x :: r => uptoBulkEntry x + uptoBulkEntries r
def uptoBulkEntry {H : Type} : Lit × DataW H → Nat
  | (.string bytes, d) => bytes.length + uptoBulk d + 1
  | (_, d) => uptoBulk d + 1
 end
def uptoSmall : (H : Type) → List (DataW H) → Bool := fun _ ds => decide (uptoBulkAll ds ≤ 1048576)
def OpenSpec.upto (s : _root_.Go.ChangeSpec) : _root_.Go.OpenSpec := { _root_.Go.OpenSpec.ofChange s with cond := some uptoSmall }

/-- 'thuriblelaw12.ExpiryTells', WHERE WHAT IT READS IS OF BULK AT MOST 1048576: true; the input reads as it did. -/
def expiryTellsUptoRow : OpenClaim := { program := "ytjfhmnamiipgbaa", sum := "3ecf8129323ec9ee76047b3b4f9ad4357d3fcaa5cb21ba4785f1740fbcba3ab8", func := "thurible/thuriblelaw12.ExpiryTells", spec := "expiryTells", unfollowed := true, recurses := true, apart := false, narrowed := true }
def ExpiryTellsUptoSaid : Prop := expiryTellsUptoRow.holds Try.pinned (OpenSpec.upto expiryTellsSpec)

/-- 'thuriblelaw12.ExpiryStays', WHERE WHAT IT READS IS OF BULK AT MOST 1048576: true; the input reads as it did. -/
def expiryStaysUptoRow : OpenClaim := { program := "ytjfhmnamiipgbaa", sum := "3ecf8129323ec9ee76047b3b4f9ad4357d3fcaa5cb21ba4785f1740fbcba3ab8", func := "thurible/thuriblelaw12.ExpiryStays", spec := "expiryStays", unfollowed := true, recurses := true, apart := false, narrowed := true }
def ExpiryStaysUptoSaid : Prop := expiryStaysUptoRow.holds Try.pinned (OpenSpec.upto expiryStaysSpec)

/-- 'thuriblelaw12.ExpiryCounts', WHERE WHAT IT READS IS OF BULK AT MOST 1048576: true; the input reads as it did. -/
def expiryCountsUptoRow : OpenClaim := { program := "ytjfhmnamiipgbaa", sum := "3ecf8129323ec9ee76047b3b4f9ad4357d3fcaa5cb21ba4785f1740fbcba3ab8", func := "thurible/thuriblelaw12.ExpiryCounts", spec := "expiryCounts", unfollowed := true, recurses := true, apart := false, narrowed := true }
def ExpiryCountsUptoSaid : Prop := expiryCountsUptoRow.holds Try.pinned (OpenSpec.upto expiryCountsSpec)

/-- 'thuriblelaw12.ExpiryNever', WHERE WHAT IT READS IS OF BULK AT MOST 1048576: true; the input reads as it did. -/
def expiryNeverUptoRow : OpenClaim := { program := "ytjfhmnamiipgbaa", sum := "3ecf8129323ec9ee76047b3b4f9ad4357d3fcaa5cb21ba4785f1740fbcba3ab8", func := "thurible/thuriblelaw12.ExpiryNever", spec := "expiryNever", unfollowed := true, recurses := true, apart := false, narrowed := true }
def ExpiryNeverUptoSaid : Prop := expiryNeverUptoRow.holds Try.pinned (OpenSpec.upto expiryNeverSpec)

end Rows
end Go.Proofs.Ytjfhmnamiipgbaa
