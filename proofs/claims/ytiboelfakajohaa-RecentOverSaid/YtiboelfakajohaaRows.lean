/-
  No cell of these rows narrows 'for every input' (looked for: loops, veiled, ifaces, maps, wideKeys, modest, calm, conditions, laid).
  DERIVED. THE GIVEN ROWS OF THIS SEAT. 4 by the template 'for every input the law returns true; each argument reads behind the call as it read before'; 0 by the template 'total and deterministic' (their statements: YtiboelfakajohaaTotals.lean).
  GIVEN WITH THE SEED: the statements are not yours to turn. If you find one false, say at which input.
  Laid BY PROGRAM, IN A SANDBOX (cutbox-rows.mjs): the forced cells as the released guide's own fill.sh prints them over the translation 502b37f183713c86… (all of the seat's roots in one cut). By AI agents, Wed Nov 11 2026. No macro, syntax, notation, axiom, sorry.
-/
import Derived.Test.YtiboelfakajohaaChecked
import GoSem.Claim
import GoSem.ClaimJoined
import GoSem.ClaimMapViews
import Derived.JoinedTies
import Derived.KernelRfl
namespace Go.Proofs.Ytiboelfakajohaa
/- THE CELL 'sum', in the pinned program and in every row, IS THE sha256 OF THE DUMP (.gsa) THAT YtiboelfakajohaaProg.lean LOADS. Nothing in Lean hashes anything: it is a label: what it is worth is what the hold of that sum in a sandbox is worth. -/
noncomputable def Try.pinned : Pinned := { name := "ytiboelfakajohaa", sum := "502b37f183713c86e505824caafcbf5e0c137a68476048b0358fc3d25fe315ff", checked := Try.checked }
namespace Rows
def none {H : Type} : Left H := { results := [], args := [] }

/-- 'thuriblelaw18.RecentTells': WHATEVER THE INPUT: true; the input reads as it did. -/
def recentTellsSpec : ChangeSpec := { name := "recentTells", fn := fun _ => fun
  | [d1, d2, d3] => { results := [.lit (.bool true)], args := [d1, d2, d3] }
  | _ => none }
def recentTellsRow : OpenClaim := { program := "ytiboelfakajohaa", sum := "502b37f183713c86e505824caafcbf5e0c137a68476048b0358fc3d25fe315ff", func := "thurible/thuriblelaw18.RecentTells", spec := "recentTells", unfollowed := true, recurses := true, apart := false }
def RecentTellsSaid : Prop := recentTellsRow.holds Try.pinned (OpenSpec.ofChange recentTellsSpec)

/-- ITS FALSE NEIGHBOUR: 'it returns false'. Refute it at one input. -/
def recentTellsWrong : ChangeSpec := { name := "recentTells", fn := fun _ => fun
  | [d1, d2, d3] => { results := [.lit (.bool false)], args := [d1, d2, d3] }
  | _ => none }
def RecentTellsWrongFalsely : Prop := recentTellsRow.holds Try.pinned (OpenSpec.ofChange recentTellsWrong)

/-- 'thuriblelaw18.RecentLast': WHATEVER THE INPUT: true; the input reads as it did. -/
def recentLastSpec : ChangeSpec := { name := "recentLast", fn := fun _ => fun
  | [d1, d2, d3] => { results := [.lit (.bool true)], args := [d1, d2, d3] }
  | _ => none }
def recentLastRow : OpenClaim := { program := "ytiboelfakajohaa", sum := "502b37f183713c86e505824caafcbf5e0c137a68476048b0358fc3d25fe315ff", func := "thurible/thuriblelaw18.RecentLast", spec := "recentLast", unfollowed := true, recurses := true, apart := false }
def RecentLastSaid : Prop := recentLastRow.holds Try.pinned (OpenSpec.ofChange recentLastSpec)

/-- ITS FALSE NEIGHBOUR: 'it returns false'. Refute it at one input. -/
def recentLastWrong : ChangeSpec := { name := "recentLast", fn := fun _ => fun
  | [d1, d2, d3] => { results := [.lit (.bool false)], args := [d1, d2, d3] }
  | _ => none }
def RecentLastWrongFalsely : Prop := recentLastRow.holds Try.pinned (OpenSpec.ofChange recentLastWrong)

/-- 'thuriblelaw18.RecentTwice': WHATEVER THE INPUT: true; the input reads as it did. -/
def recentTwiceSpec : ChangeSpec := { name := "recentTwice", fn := fun _ => fun
  | [d1, d2, d3, d4] => { results := [.lit (.bool true)], args := [d1, d2, d3, d4] }
  | _ => none }
def recentTwiceRow : OpenClaim := { program := "ytiboelfakajohaa", sum := "502b37f183713c86e505824caafcbf5e0c137a68476048b0358fc3d25fe315ff", func := "thurible/thuriblelaw18.RecentTwice", spec := "recentTwice", unfollowed := true, recurses := true, apart := false }
def RecentTwiceSaid : Prop := recentTwiceRow.holds Try.pinned (OpenSpec.ofChange recentTwiceSpec)

/-- ITS FALSE NEIGHBOUR: 'it returns false'. Refute it at one input. -/
def recentTwiceWrong : ChangeSpec := { name := "recentTwice", fn := fun _ => fun
  | [d1, d2, d3, d4] => { results := [.lit (.bool false)], args := [d1, d2, d3, d4] }
  | _ => none }
def RecentTwiceWrongFalsely : Prop := recentTwiceRow.holds Try.pinned (OpenSpec.ofChange recentTwiceWrong)

/-- 'thuriblelaw18.RecentOver': WHATEVER THE INPUT: true; the input reads as it did. -/
def recentOverSpec : ChangeSpec := { name := "recentOver", fn := fun _ => fun
  | [d1, d2, d3, d4] => { results := [.lit (.bool true)], args := [d1, d2, d3, d4] }
  | _ => none }
def recentOverRow : OpenClaim := { program := "ytiboelfakajohaa", sum := "502b37f183713c86e505824caafcbf5e0c137a68476048b0358fc3d25fe315ff", func := "thurible/thuriblelaw18.RecentOver", spec := "recentOver", unfollowed := true, recurses := true, apart := false }
def RecentOverSaid : Prop := recentOverRow.holds Try.pinned (OpenSpec.ofChange recentOverSpec)

/-- ITS FALSE NEIGHBOUR: 'it returns false'. Refute it at one input. -/
def recentOverWrong : ChangeSpec := { name := "recentOver", fn := fun _ => fun
  | [d1, d2, d3, d4] => { results := [.lit (.bool false)], args := [d1, d2, d3, d4] }
  | _ => none }
def RecentOverWrongFalsely : Prop := recentOverRow.holds Try.pinned (OpenSpec.ofChange recentOverWrong)

/- THE SECOND FORM. 'bulk': how many values and letters a reading holds, each counted each time it is reached (what is shared counts as often as it is met; a slice's spare places count too). A statement '..UptoSaid' is the law's where the arguments, and the package variables that the reading takes, are together of bulk at most 1048576: NARROWER than '..Said'. Prove '..Said' where nothing that the law and all that it calls make is longer than what came in: it says more and counts as full. Else prove '..UptoSaid'. A law counts once. -/
mutual
def uptoBulk {H : Type} : DataW H → Nat
  | .lit (.string bytes) => bytes.length + 1
  | .lit _ => 1
  | .nil => 1
  | .ptr d => uptoBulk d + 1
  | .slice elems spare => uptoBulkAll elems + uptoBulkAll spare + 1
  | .agg parts => uptoBulkAll parts + 1
  | .iface _ d => uptoBulk d + 1
  | .map entries => uptoBulkEntries entries + 1
  | .held _ => 1
def uptoBulkAll {H : Type} : List (DataW H) → Nat
  | [] => 0
  | d :: r => uptoBulk d + uptoBulkAll r
def uptoBulkEntries {H : Type} : List (Lit × DataW H) → Nat
  | [] => 0
  | x :: r => uptoBulkEntry x + uptoBulkEntries r
def uptoBulkEntry {H : Type} : Lit × DataW H → Nat
  | (.string bytes, d) => bytes.length + uptoBulk d + 1
  | (_, d) => uptoBulk d + 1
 end
def uptoSmall : (H : Type) → List (DataW H) → Bool := fun _ ds => decide (uptoBulkAll ds ≤ 1048576)
def OpenSpec.upto (s : _root_.Go.ChangeSpec) : _root_.Go.OpenSpec := { _root_.Go.OpenSpec.ofChange s with cond := some uptoSmall }

/-- 'thuriblelaw18.RecentTells', WHERE WHAT IT READS IS OF BULK AT MOST 1048576: true; the input reads as it did. -/
def recentTellsUptoRow : OpenClaim := { program := "ytiboelfakajohaa", sum := "502b37f183713c86e505824caafcbf5e0c137a68476048b0358fc3d25fe315ff", func := "thurible/thuriblelaw18.RecentTells", spec := "recentTells", unfollowed := true, recurses := true, apart := false, narrowed := true }
def RecentTellsUptoSaid : Prop := recentTellsUptoRow.holds Try.pinned (OpenSpec.upto recentTellsSpec)

/-- 'thuriblelaw18.RecentLast', WHERE WHAT IT READS IS OF BULK AT MOST 1048576: true; the input reads as it did. -/
def recentLastUptoRow : OpenClaim := { program := "ytiboelfakajohaa", sum := "502b37f183713c86e505824caafcbf5e0c137a68476048b0358fc3d25fe315ff", func := "thurible/thuriblelaw18.RecentLast", spec := "recentLast", unfollowed := true, recurses := true, apart := false, narrowed := true }
def RecentLastUptoSaid : Prop := recentLastUptoRow.holds Try.pinned (OpenSpec.upto recentLastSpec)

/-- 'thuriblelaw18.RecentTwice', WHERE WHAT IT READS IS OF BULK AT MOST 1048576: true; the input reads as it did. -/
def recentTwiceUptoRow : OpenClaim := { program := "ytiboelfakajohaa", sum := "502b37f183713c86e505824caafcbf5e0c137a68476048b0358fc3d25fe315ff", func := "thurible/thuriblelaw18.RecentTwice", spec := "recentTwice", unfollowed := true, recurses := true, apart := false, narrowed := true }
def RecentTwiceUptoSaid : Prop := recentTwiceUptoRow.holds Try.pinned (OpenSpec.upto recentTwiceSpec)

/-- 'thuriblelaw18.RecentOver', WHERE WHAT IT READS IS OF BULK AT MOST 1048576: true; the input reads as it did. -/
def recentOverUptoRow : OpenClaim := { program := "ytiboelfakajohaa", sum := "502b37f183713c86e505824caafcbf5e0c137a68476048b0358fc3d25fe315ff", func := "thurible/thuriblelaw18.RecentOver", spec := "recentOver", unfollowed := true, recurses := true, apart := false, narrowed := true }
def RecentOverUptoSaid : Prop := recentOverUptoRow.holds Try.pinned (OpenSpec.upto recentOverSpec)

end Rows
end Go.Proofs.Ytiboelfakajohaa
