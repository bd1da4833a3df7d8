/-
  DERIVED. GIVEN WITH THE SEED: THE CARDS: each row of YtgamkahbebnnaaaDoorRows.lean that lists a variable, with what it lists TIED to the program's text (the seventh form; the later family's looks); each row that meets fmt, with fmt's text TOLD by the authors' own Lean function (tested against real Go, not proved from fmt's source: count such statements apart). THE CARD IS WHAT COUNTS. Prove the row's statement (the work); the ties are given (YtgamkahbebnnaaaDoorTie.lean); close each card by the builder's one call (the guide's Derived/Test/ToyasCard.lean, 'card_holds'). Laid BY PROGRAM, IN A SANDBOX (cutbox-door.mjs). By AI agents, Wed Nov 11 2026. No macro, syntax, notation, axiom, sorry.
-/
import Derived.Test.YtgamkahbebnnaaaDoorRows
import GoSem.ClaimSeven
namespace Go.Proofs.YtgamkahbebnnaaaDoor
namespace Rows

/-- THE TIED CARD OF 'retroactlaw06.WalLasts'. -/
def walLastsCard : Claim7 := { stood := { row := walLastsRow, standIns := [], harness := (true, "ed7340631feb6c8a3bc10bf3869aa6742f975ba91922d2bbba6885f6717e8726"), looks := false }, kinds := [], alts := [], laidByText := true, laidKinds := [.data], laidTests := true, laidLooks := .later }
def WalLastsCardSaid : Prop := Claim7.holds Tryd.pinned (.plain (OpenSpec.ofChange walLastsSpec)) walLastsCard

/-- THE TIED CARD OF 'retroactlaw06.WalTorn'. -/
def walTornCard : Claim7 := { stood := { row := walTornRow, standIns := [], harness := (true, "ed7340631feb6c8a3bc10bf3869aa6742f975ba91922d2bbba6885f6717e8726"), looks := false }, kinds := [], alts := [], laidByText := true, laidKinds := [.data], laidTests := true, laidLooks := .later }
def WalTornCardSaid : Prop := Claim7.holds Tryd.pinned (.plain (OpenSpec.ofChange walTornSpec)) walTornCard

/-- THE TIED CARD OF 'retroactlaw06.WalJoins'. -/
def walJoinsCard : Claim7 := { stood := { row := walJoinsRow, standIns := [], harness := (true, "ed7340631feb6c8a3bc10bf3869aa6742f975ba91922d2bbba6885f6717e8726"), looks := false }, kinds := [], alts := [], laidByText := true, laidKinds := [.data], laidTests := true, laidLooks := .later }
def WalJoinsCardSaid : Prop := Claim7.holds Tryd.pinned (.plain (OpenSpec.ofChange walJoinsSpec)) walJoinsCard

/-- THE TIED CARD OF 'retroactlaw06.WalAlone'. -/
def walAloneCard : Claim7 := { stood := { row := walAloneRow, standIns := [], harness := (true, "ed7340631feb6c8a3bc10bf3869aa6742f975ba91922d2bbba6885f6717e8726"), looks := false }, kinds := [], alts := [], laidByText := true, laidKinds := [.data], laidTests := true, laidLooks := .later }
def WalAloneCardSaid : Prop := Claim7.holds Tryd.pinned (.plain (OpenSpec.ofChange walAloneSpec)) walAloneCard

/-- THE SECOND FORM's CARD OF 'retroactlaw06.WalLasts'. -/
def walLastsUptoCard : Claim7 := { stood := { row := walLastsUptoRow, standIns := [], harness := (true, "ed7340631feb6c8a3bc10bf3869aa6742f975ba91922d2bbba6885f6717e8726"), looks := false }, kinds := [], alts := [], laidByText := true, laidKinds := [.data], laidTests := true, laidLooks := .later }
def WalLastsUptoCardSaid : Prop := Claim7.holds Tryd.pinned (.plain (OpenSpec.upto walLastsSpec)) walLastsUptoCard

/-- THE SECOND FORM's CARD OF 'retroactlaw06.WalTorn'. -/
def walTornUptoCard : Claim7 := { stood := { row := walTornUptoRow, standIns := [], harness := (true, "ed7340631feb6c8a3bc10bf3869aa6742f975ba91922d2bbba6885f6717e8726"), looks := false }, kinds := [], alts := [], laidByText := true, laidKinds := [.data], laidTests := true, laidLooks := .later }
def WalTornUptoCardSaid : Prop := Claim7.holds Tryd.pinned (.plain (OpenSpec.upto walTornSpec)) walTornUptoCard

/-- THE SECOND FORM's CARD OF 'retroactlaw06.WalJoins'. -/
def walJoinsUptoCard : Claim7 := { stood := { row := walJoinsUptoRow, standIns := [], harness := (true, "ed7340631feb6c8a3bc10bf3869aa6742f975ba91922d2bbba6885f6717e8726"), looks := false }, kinds := [], alts := [], laidByText := true, laidKinds := [.data], laidTests := true, laidLooks := .later }
def WalJoinsUptoCardSaid : Prop := Claim7.holds Tryd.pinned (.plain (OpenSpec.upto walJoinsSpec)) walJoinsUptoCard

/-- THE SECOND FORM's CARD OF 'retroactlaw06.WalAlone'. -/
def walAloneUptoCard : Claim7 := { stood := { row := walAloneUptoRow, standIns := [], harness := (true, "ed7340631feb6c8a3bc10bf3869aa6742f975ba91922d2bbba6885f6717e8726"), looks := false }, kinds := [], alts := [], laidByText := true, laidKinds := [.data], laidTests := true, laidLooks := .later }
def WalAloneUptoCardSaid : Prop := Claim7.holds Tryd.pinned (.plain (OpenSpec.upto walAloneSpec)) walAloneUptoCard
end Rows
end Go.Proofs.YtgamkahbebnnaaaDoor
