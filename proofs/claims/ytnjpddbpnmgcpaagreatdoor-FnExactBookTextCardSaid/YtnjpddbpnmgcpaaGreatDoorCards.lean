/-
  DERIVED. GIVEN WITH THE SEED: THE CARDS: each row of YtnjpddbpnmgcpaaGreatDoorRows.lean that lists a variable, with what it lists TIED to the program's text (the seventh form; the later family's looks); each row that meets fmt, with fmt's text TOLD by the authors' own Lean function (tested against real Go, not proved from fmt's source: count such statements apart). THE CARD IS WHAT COUNTS. Prove the row's statement (the work); the ties are given (YtnjpddbpnmgcpaaGreatDoorTie.lean); close each card by the builder's one call (the guide's Derived/Test/ToyasCard.lean, 'card_holds'). Laid BY PROGRAM, IN A SANDBOX (cutbox-door.mjs). By AI agents, Wed Nov 11 2026. No macro, syntax, notation, axiom, sorry.
-/
import Derived.Test.YtnjpddbpnmgcpaaGreatDoorRows
import GoSem.ClaimSeven
namespace Go.Proofs.YtnjpddbpnmgcpaaGreatDoor
namespace Rows

/-- THE TIED CARD OF 'laws.FnExactBookText'. -/
def fnExactBookTextCard : Claim7 := { stood := { row := fnExactBookTextRow, standIns := [], harness := (true, "e004561547aba72d590b6964e0d27069436fed9bdf8ebb3f6cae4b56a39d9b82"), looks := true }, kinds := [], alts := [], laidByText := true, laidKinds := [.data, .data, .data], laidTests := true, laidLooks := .later }
def FnExactBookTextCardSaid : Prop := Claim7.holds Tryz.pinned (.plain (OpenSpec.ofChange fnExactBookTextSpec)) fnExactBookTextCard

/-- THE TIED CARD OF 'laws.FnExactBookRead'. -/
def fnExactBookReadCard : Claim7 := { stood := { row := fnExactBookReadRow, standIns := [], harness := (true, "e004561547aba72d590b6964e0d27069436fed9bdf8ebb3f6cae4b56a39d9b82"), looks := true }, kinds := [], alts := [], laidByText := true, laidKinds := [.data, .data, .data, .data, .sentinel, .sentinel, .pinned], laidTests := true, laidLooks := .later }
def FnExactBookReadCardSaid : Prop := Claim7.holds Tryz.pinned (.plain (OpenSpec.ofChange fnExactBookReadSpec)) fnExactBookReadCard

/-- THE SECOND FORM's CARD OF 'laws.FnExactBookText'. -/
def fnExactBookTextUptoCard : Claim7 := { stood := { row := fnExactBookTextUptoRow, standIns := [], harness := (true, "e004561547aba72d590b6964e0d27069436fed9bdf8ebb3f6cae4b56a39d9b82"), looks := true }, kinds := [], alts := [], laidByText := true, laidKinds := [.data, .data, .data], laidTests := true, laidLooks := .later }
def FnExactBookTextUptoCardSaid : Prop := Claim7.holds Tryz.pinned (.plain (OpenSpec.upto fnExactBookTextSpec)) fnExactBookTextUptoCard

/-- THE SECOND FORM's CARD OF 'laws.FnExactBookRead'. -/
def fnExactBookReadUptoCard : Claim7 := { stood := { row := fnExactBookReadUptoRow, standIns := [], harness := (true, "e004561547aba72d590b6964e0d27069436fed9bdf8ebb3f6cae4b56a39d9b82"), looks := true }, kinds := [], alts := [], laidByText := true, laidKinds := [.data, .data, .data, .data, .sentinel, .sentinel, .pinned], laidTests := true, laidLooks := .later }
def FnExactBookReadUptoCardSaid : Prop := Claim7.holds Tryz.pinned (.plain (OpenSpec.upto fnExactBookReadSpec)) fnExactBookReadUptoCard
end Rows
end Go.Proofs.YtnjpddbpnmgcpaaGreatDoor
