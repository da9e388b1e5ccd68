/-
  DERIVED. GIVEN WITH THE SEED: THE CARDS: each row of YtehmlneaahbdoaaDoorRows.lean that lists a variable, with what it lists TIED to the program's text (the seventh form; the later family's looks); each row that meets fmt, with fmt's text TOLD by the authors' own Lean function (tested against real Go, not proved from fmt's source: count such statements apart). THE CARD IS WHAT COUNTS. Prove the row's statement (the work); the ties are given (YtehmlneaahbdoaaDoorTie.lean); close each card by the builder's one call (the guide's Derived/Test/ToyasCard.lean, 'card_holds'). Laid BY PROGRAM, IN A SANDBOX (cutbox-door.mjs). By AI agents, Wed Nov 11 2026. No macro, syntax, notation, axiom, sorry.
-/
import Derived.Test.YtehmlneaahbdoaaDoorRows
import GoSem.ClaimSeven
namespace Go.Proofs.YtehmlneaahbdoaaDoor
namespace Rows

/-- THE TIED CARD OF 'laws.FnSealed'. -/
def fnSealedCard : Claim7 := { stood := { row := fnSealedRow, standIns := [], harness := (true, "4095bf97a6d6d9837fc5a01040d235d04a498fb57376791bffb69d53b389238f"), looks := true }, kinds := [], alts := [], laidByText := true, laidKinds := [.sentinel, .sentinel, .sentinel, .sentinel], laidTests := true, laidLooks := .later }
def FnSealedCardSaid : Prop := Claim7.holds Tryd.pinned (.plain (OpenSpec.ofChange fnSealedSpec)) fnSealedCard

/-- THE TIED CARD OF 'laws.FnTry'. -/
def fnTryCard : Claim7 := { stood := { row := fnTryRow, standIns := [], harness := (true, "4095bf97a6d6d9837fc5a01040d235d04a498fb57376791bffb69d53b389238f"), looks := true }, kinds := [], alts := [], laidByText := true, laidKinds := [.sentinel, .sentinel, .sentinel, .sentinel], laidTests := true, laidLooks := .later }
def FnTryCardSaid : Prop := Claim7.holds Tryd.pinned (.plain (OpenSpec.ofChange fnTrySpec)) fnTryCard

/-- THE TIED CARD OF 'laws.FnExactTry'. -/
def fnExactTryCard : Claim7 := { stood := { row := fnExactTryRow, standIns := [], harness := (true, "4095bf97a6d6d9837fc5a01040d235d04a498fb57376791bffb69d53b389238f"), looks := true }, kinds := [], alts := [], laidByText := true, laidKinds := [.sentinel, .sentinel, .sentinel, .sentinel], laidTests := true, laidLooks := .later }
def FnExactTryCardSaid : Prop := Claim7.holds Tryd.pinned (.plain (OpenSpec.ofChange fnExactTrySpec)) fnExactTryCard

/-- THE SECOND FORM's CARD OF 'laws.FnSealed'. -/
def fnSealedUptoCard : Claim7 := { stood := { row := fnSealedUptoRow, standIns := [], harness := (true, "4095bf97a6d6d9837fc5a01040d235d04a498fb57376791bffb69d53b389238f"), looks := true }, kinds := [], alts := [], laidByText := true, laidKinds := [.sentinel, .sentinel, .sentinel, .sentinel], laidTests := true, laidLooks := .later }
def FnSealedUptoCardSaid : Prop := Claim7.holds Tryd.pinned (.plain (OpenSpec.upto fnSealedSpec)) fnSealedUptoCard

/-- THE SECOND FORM's CARD OF 'laws.FnTry'. -/
def fnTryUptoCard : Claim7 := { stood := { row := fnTryUptoRow, standIns := [], harness := (true, "4095bf97a6d6d9837fc5a01040d235d04a498fb57376791bffb69d53b389238f"), looks := true }, kinds := [], alts := [], laidByText := true, laidKinds := [.sentinel, .sentinel, .sentinel, .sentinel], laidTests := true, laidLooks := .later }
def FnTryUptoCardSaid : Prop := Claim7.holds Tryd.pinned (.plain (OpenSpec.upto fnTrySpec)) fnTryUptoCard

/-- THE SECOND FORM's CARD OF 'laws.FnExactTry'. -/
def fnExactTryUptoCard : Claim7 := { stood := { row := fnExactTryUptoRow, standIns := [], harness := (true, "4095bf97a6d6d9837fc5a01040d235d04a498fb57376791bffb69d53b389238f"), looks := true }, kinds := [], alts := [], laidByText := true, laidKinds := [.sentinel, .sentinel, .sentinel, .sentinel], laidTests := true, laidLooks := .later }
def FnExactTryUptoCardSaid : Prop := Claim7.holds Tryd.pinned (.plain (OpenSpec.upto fnExactTrySpec)) fnExactTryUptoCard
end Rows
end Go.Proofs.YtehmlneaahbdoaaDoor
