/-
  DERIVED. GIVEN WITH THE SEED: THE CARDS: each row of YtblcigmggdiccaaGreatDoorRows.lean that lists a variable, with what it lists TIED to the program's text (the seventh form; the later family's looks); each row that meets fmt, with fmt's text TOLD by the authors' own Lean function (tested against real Go, not proved from fmt's source: count such statements apart). THE CARD IS WHAT COUNTS. Prove the row's statement (the work); the ties are given (YtblcigmggdiccaaGreatDoorTie.lean); close each card by the builder's one call (the guide's Derived/Test/ToyasCard.lean, 'card_holds'). Laid BY PROGRAM, IN A SANDBOX (cutbox-door.mjs). By AI agents, Wed Nov 11 2026. No macro, syntax, notation, axiom, sorry.
-/
import Derived.Test.YtblcigmggdiccaaGreatDoorRows
import GoSem.ClaimSeven
namespace Go.Proofs.YtblcigmggdiccaaGreatDoor
namespace Rows

/-- THE TIED CARD OF 'shardloglaw.Right'. -/
def rightCard : Claim7 := { stood := { row := rightRow, standIns := [], harness := (true, "e98d76e80e41348f767178e6ed1f44dd42649946274b32376059da1dd77b8d86"), looks := true }, kinds := [], alts := [], goes := true, laidByText := true, laidKinds := [.handle, .sentinel, .sentinel, .sentinel, .sentinel, .sentinel, .sentinel, .sentinel, .sentinel, .sentinel], laidTests := true, laidLooks := .later }
def RightCardSaid : Prop := Claim7.holds Tryz.pinned (.plain (OpenSpec.ofChange rightSpec)) rightCard

/-- THE TIED CARD OF 'shardloglaw.Client'. -/
def clientCard : Claim7 := { stood := { row := clientRow, standIns := [], harness := (true, "e98d76e80e41348f767178e6ed1f44dd42649946274b32376059da1dd77b8d86"), looks := true }, kinds := [], alts := [], goes := true, laidByText := true, laidKinds := [.handle, .sentinel, .sentinel, .sentinel, .sentinel, .sentinel, .sentinel, .sentinel, .sentinel, .sentinel], laidTests := true, laidLooks := .later }
def ClientCardSaid : Prop := Claim7.holds Tryz.pinned (.plain (OpenSpec.ofChange clientSpec)) clientCard

/-- THE TIED CARD OF 'shardloglaw.Calm'. -/
def calmCard : Claim7 := { stood := { row := calmRow, standIns := [], harness := (true, "e98d76e80e41348f767178e6ed1f44dd42649946274b32376059da1dd77b8d86"), looks := true }, kinds := [], alts := [], goes := true, laidByText := true, laidKinds := [.handle, .sentinel, .sentinel, .sentinel, .sentinel, .sentinel, .sentinel, .sentinel, .sentinel, .sentinel], laidTests := true, laidLooks := .later }
def CalmCardSaid : Prop := Claim7.holds Tryz.pinned (.plain (OpenSpec.ofChange calmSpec)) calmCard

/-- THE TIED CARD OF 'shardloglaw.Submits'. -/
def submitsCard : Claim7 := { stood := { row := submitsRow, standIns := [], harness := (true, "e98d76e80e41348f767178e6ed1f44dd42649946274b32376059da1dd77b8d86"), looks := true }, kinds := [], alts := [], goes := true, laidByText := true, laidKinds := [.handle, .sentinel, .sentinel, .sentinel, .sentinel, .sentinel, .sentinel, .sentinel, .sentinel, .sentinel], laidTests := true, laidLooks := .later }
def SubmitsCardSaid : Prop := Claim7.holds Tryz.pinned (.plain (OpenSpec.ofChange submitsSpec)) submitsCard

/-- THE TIED CARD OF 'shardloglaw.Delivers'. -/
def deliversCard : Claim7 := { stood := { row := deliversRow, standIns := [], harness := (true, "e98d76e80e41348f767178e6ed1f44dd42649946274b32376059da1dd77b8d86"), looks := true }, kinds := [], alts := [], goes := true, laidByText := true, laidKinds := [.handle, .sentinel, .sentinel, .sentinel, .sentinel, .sentinel, .sentinel, .sentinel, .sentinel, .sentinel], laidTests := true, laidLooks := .later }
def DeliversCardSaid : Prop := Claim7.holds Tryz.pinned (.plain (OpenSpec.ofChange deliversSpec)) deliversCard

/-- THE TIED CARD OF 'shardloglaw.Times'. -/
def timesCard : Claim7 := { stood := { row := timesRow, standIns := [], harness := (true, "e98d76e80e41348f767178e6ed1f44dd42649946274b32376059da1dd77b8d86"), looks := true }, kinds := [], alts := [], goes := true, laidByText := true, laidKinds := [.handle, .sentinel, .sentinel, .sentinel, .sentinel, .sentinel, .sentinel, .sentinel, .sentinel, .sentinel], laidTests := true, laidLooks := .later }
def TimesCardSaid : Prop := Claim7.holds Tryz.pinned (.plain (OpenSpec.ofChange timesSpec)) timesCard

/-- THE TIED CARD OF 'shardloglaw.Crashes'. -/
def crashesCard : Claim7 := { stood := { row := crashesRow, standIns := [], harness := (true, "e98d76e80e41348f767178e6ed1f44dd42649946274b32376059da1dd77b8d86"), looks := true }, kinds := [], alts := [], goes := true, laidByText := true, laidKinds := [.handle, .sentinel, .sentinel, .sentinel, .sentinel, .sentinel, .sentinel, .sentinel, .sentinel, .sentinel], laidTests := true, laidLooks := .later }
def CrashesCardSaid : Prop := Claim7.holds Tryz.pinned (.plain (OpenSpec.ofChange crashesSpec)) crashesCard

/-- THE TIED CARD OF 'shardloglaw.Bags'. -/
def bagsCard : Claim7 := { stood := { row := bagsRow, standIns := [], harness := (true, "e98d76e80e41348f767178e6ed1f44dd42649946274b32376059da1dd77b8d86"), looks := true }, kinds := [], alts := [], goes := true, laidByText := true, laidKinds := [.handle, .sentinel, .sentinel, .sentinel, .sentinel, .sentinel, .sentinel, .sentinel, .sentinel, .sentinel], laidTests := true, laidLooks := .later }
def BagsCardSaid : Prop := Claim7.holds Tryz.pinned (.plain (OpenSpec.ofChange bagsSpec)) bagsCard

/-- THE TIED CARD OF 'shardloglaw.Results'. -/
def resultsCard : Claim7 := { stood := { row := resultsRow, standIns := [], harness := (true, "e98d76e80e41348f767178e6ed1f44dd42649946274b32376059da1dd77b8d86"), looks := true }, kinds := [], alts := [], goes := true, laidByText := true, laidKinds := [.handle, .sentinel, .sentinel, .sentinel, .sentinel, .sentinel, .sentinel, .sentinel, .sentinel, .sentinel], laidTests := true, laidLooks := .later }
def ResultsCardSaid : Prop := Claim7.holds Tryz.pinned (.plain (OpenSpec.ofChange resultsSpec)) resultsCard

/-- THE TIED CARD OF 'shardloglaw.Values'. -/
def valuesCard : Claim7 := { stood := { row := valuesRow, standIns := [], harness := (true, "e98d76e80e41348f767178e6ed1f44dd42649946274b32376059da1dd77b8d86"), looks := true }, kinds := [], alts := [], goes := true, laidByText := true, laidKinds := [.handle, .sentinel, .sentinel, .sentinel, .sentinel, .sentinel, .sentinel, .sentinel, .sentinel, .sentinel], laidTests := true, laidLooks := .later }
def ValuesCardSaid : Prop := Claim7.holds Tryz.pinned (.plain (OpenSpec.ofChange valuesSpec)) valuesCard

/-- THE TIED CARD OF 'shardloglaw.Logs'. -/
def logsCard : Claim7 := { stood := { row := logsRow, standIns := [], harness := (true, "e98d76e80e41348f767178e6ed1f44dd42649946274b32376059da1dd77b8d86"), looks := true }, kinds := [], alts := [], goes := true, laidByText := true, laidKinds := [.handle, .sentinel, .sentinel, .sentinel, .sentinel, .sentinel, .sentinel, .sentinel, .sentinel, .sentinel], laidTests := true, laidLooks := .later }
def LogsCardSaid : Prop := Claim7.holds Tryz.pinned (.plain (OpenSpec.ofChange logsSpec)) logsCard
end Rows
end Go.Proofs.YtblcigmggdiccaaGreatDoor
