/-
  DERIVED. GIVEN WITH THE SEED: THE CARDS: each row of YtgcopgnkfokphaaDoorRows.lean that lists a variable, with what it lists TIED to the program's text (the seventh form; the later family's looks); each row that meets fmt, with fmt's text TOLD by the authors' own Lean function (tested against real Go, not proved from fmt's source: count such statements apart). THE CARD IS WHAT COUNTS. Prove the row's statement (the work); the ties are given (YtgcopgnkfokphaaDoorTie.lean); close each card by the builder's one call (the guide's Derived/Test/ToyasCard.lean, 'card_holds'). Laid BY PROGRAM, IN A SANDBOX (cutbox-door.mjs). By AI agents, Wed Nov 11 2026. No macro, syntax, notation, axiom, sorry.
-/
import Derived.Test.YtgcopgnkfokphaaDoorRows
import GoSem.ClaimSeven
namespace Go.Proofs.YtgcopgnkfokphaaDoor
namespace Rows

/-- THE TIED CARD OF 'thuriblelaw05.TxEncodes'. -/
def txEncodesCard : Claim7 := { stood := { row := txEncodesRow, standIns := [], harness := (true, "209dcd1fac8d64824663f127f5962b004975d203907a54856b1b8e1a3112dcc6"), looks := true }, kinds := [], alts := [], laidByText := true, laidKinds := [.data, .data], laidTests := true, laidLooks := .later }
def TxEncodesCardSaid : Prop := Claim7.holds Tryd.pinned (.plain (OpenSpec.ofChange txEncodesSpec)) txEncodesCard

/-- THE TIED CARD OF 'thuriblelaw05.TxMany'. -/
def txManyCard : Claim7 := { stood := { row := txManyRow, standIns := [], harness := (true, "209dcd1fac8d64824663f127f5962b004975d203907a54856b1b8e1a3112dcc6"), looks := true }, kinds := [], alts := [], laidByText := true, laidKinds := [.data, .data], laidTests := true, laidLooks := .later }
def TxManyCardSaid : Prop := Claim7.holds Tryd.pinned (.plain (OpenSpec.ofChange txManySpec)) txManyCard

/-- THE TIED CARD OF 'thuriblelaw05.TxNames'. -/
def txNamesCard : Claim7 := { stood := { row := txNamesRow, standIns := [], harness := (true, "209dcd1fac8d64824663f127f5962b004975d203907a54856b1b8e1a3112dcc6"), looks := true }, kinds := [], alts := [], laidByText := true, laidKinds := [.data, .data], laidTests := true, laidLooks := .later }
def TxNamesCardSaid : Prop := Claim7.holds Tryd.pinned (.plain (OpenSpec.ofChange txNamesSpec)) txNamesCard

/-- THE SECOND FORM's CARD OF 'thuriblelaw05.TxEncodes'. -/
def txEncodesUptoCard : Claim7 := { stood := { row := txEncodesUptoRow, standIns := [], harness := (true, "209dcd1fac8d64824663f127f5962b004975d203907a54856b1b8e1a3112dcc6"), looks := true }, kinds := [], alts := [], laidByText := true, laidKinds := [.data, .data], laidTests := true, laidLooks := .later }
def TxEncodesUptoCardSaid : Prop := Claim7.holds Tryd.pinned (.plain (OpenSpec.upto txEncodesSpec)) txEncodesUptoCard

/-- THE SECOND FORM's CARD OF 'thuriblelaw05.TxMany'. -/
def txManyUptoCard : Claim7 := { stood := { row := txManyUptoRow, standIns := [], harness := (true, "209dcd1fac8d64824663f127f5962b004975d203907a54856b1b8e1a3112dcc6"), looks := true }, kinds := [], alts := [], laidByText := true, laidKinds := [.data, .data], laidTests := true, laidLooks := .later }
def TxManyUptoCardSaid : Prop := Claim7.holds Tryd.pinned (.plain (OpenSpec.upto txManySpec)) txManyUptoCard

/-- THE SECOND FORM's CARD OF 'thuriblelaw05.TxNames'. -/
def txNamesUptoCard : Claim7 := { stood := { row := txNamesUptoRow, standIns := [], harness := (true, "209dcd1fac8d64824663f127f5962b004975d203907a54856b1b8e1a3112dcc6"), looks := true }, kinds := [], alts := [], laidByText := true, laidKinds := [.data, .data], laidTests := true, laidLooks := .later }
def TxNamesUptoCardSaid : Prop := Claim7.holds Tryd.pinned (.plain (OpenSpec.upto txNamesSpec)) txNamesUptoCard
end Rows
end Go.Proofs.YtgcopgnkfokphaaDoor
