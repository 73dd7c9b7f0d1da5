/-
  DERIVED. GIVEN WITH THE SEED: THE CARDS: each row of YtdfhfmdelinemaaGreatDoorRows.lean that lists a variable, with what it lists TIED to the program's text (the seventh form; the later family's looks); each row that meets fmt, with fmt's text TOLD by the authors' own Lean function (tested against real Go, not proved from fmt's source: count such statements apart). THE CARD IS WHAT COUNTS. Prove the row's statement (the work); the ties are given (YtdfhfmdelinemaaGreatDoorTie.lean); close each card by the builder's one call (the guide's Derived/Test/ToyasCard.lean, 'card_holds'). Laid BY PROGRAM, IN A SANDBOX (cutbox-door.mjs). By AI agents, Wed Nov 11 2026. No macro, syntax, notation, axiom, sorry.
-/
import Derived.Test.YtdfhfmdelinemaaGreatDoorRows
import GoSem.ClaimSeven
namespace Go.Proofs.YtdfhfmdelinemaaGreatDoor
namespace Rows

/-- THE TIED CARD OF 'messuagelaw11.PlainAll'. -/
def plainAllCard : Claim7 := { stood := { row := plainAllRow, standIns := [], harness := (true, "296b7b3cedc72d95c6f6c8cf436f5353d4900ae17fc53b384d51f21d3f6e8ab5"), looks := true }, kinds := [], alts := [], laidByText := true, laidKinds := [.handle], laidTests := true, laidLooks := .later }
def PlainAllCardSaid : Prop := Claim7.holds Tryz.pinned (.plain (OpenSpec.ofChange plainAllSpec)) plainAllCard

/-- THE TIED CARD OF 'messuagelaw11.PlainErr'. -/
def plainErrCard : Claim7 := { stood := { row := plainErrRow, standIns := [], harness := (true, "296b7b3cedc72d95c6f6c8cf436f5353d4900ae17fc53b384d51f21d3f6e8ab5"), looks := true }, kinds := [], alts := [], laidByText := true, laidKinds := [.handle], laidTests := true, laidLooks := .later }
def PlainErrCardSaid : Prop := Claim7.holds Tryz.pinned (.plain (OpenSpec.ofChange plainErrSpec)) plainErrCard

/-- THE TIED CARD OF 'messuagelaw11.PlainCopy'. -/
def plainCopyCard : Claim7 := { stood := { row := plainCopyRow, standIns := [], harness := (true, "296b7b3cedc72d95c6f6c8cf436f5353d4900ae17fc53b384d51f21d3f6e8ab5"), looks := true }, kinds := [], alts := [], laidByText := true, laidKinds := [.handle], laidTests := true, laidLooks := .later }
def PlainCopyCardSaid : Prop := Claim7.holds Tryz.pinned (.plain (OpenSpec.ofChange plainCopySpec)) plainCopyCard

/-- THE TIED CARD OF 'messuagelaw11.PlainFresh'. -/
def plainFreshCard : Claim7 := { stood := { row := plainFreshRow, standIns := [], harness := (true, "296b7b3cedc72d95c6f6c8cf436f5353d4900ae17fc53b384d51f21d3f6e8ab5"), looks := true }, kinds := [], alts := [], laidByText := true, laidKinds := [.handle], laidTests := true, laidLooks := .later }
def PlainFreshCardSaid : Prop := Claim7.holds Tryz.pinned (.plain (OpenSpec.ofChange plainFreshSpec)) plainFreshCard

/-- THE SECOND FORM's CARD OF 'messuagelaw11.PlainAll'. -/
def plainAllUptoCard : Claim7 := { stood := { row := plainAllUptoRow, standIns := [], harness := (true, "296b7b3cedc72d95c6f6c8cf436f5353d4900ae17fc53b384d51f21d3f6e8ab5"), looks := true }, kinds := [], alts := [], laidByText := true, laidKinds := [.handle], laidTests := true, laidLooks := .later }
def PlainAllUptoCardSaid : Prop := Claim7.holds Tryz.pinned (.plain (OpenSpec.upto plainAllSpec)) plainAllUptoCard

/-- THE SECOND FORM's CARD OF 'messuagelaw11.PlainErr'. -/
def plainErrUptoCard : Claim7 := { stood := { row := plainErrUptoRow, standIns := [], harness := (true, "296b7b3cedc72d95c6f6c8cf436f5353d4900ae17fc53b384d51f21d3f6e8ab5"), looks := true }, kinds := [], alts := [], laidByText := true, laidKinds := [.handle], laidTests := true, laidLooks := .later }
def PlainErrUptoCardSaid : Prop := Claim7.holds Tryz.pinned (.plain (OpenSpec.upto plainErrSpec)) plainErrUptoCard

/-- THE SECOND FORM's CARD OF 'messuagelaw11.PlainCopy'. -/
def plainCopyUptoCard : Claim7 := { stood := { row := plainCopyUptoRow, standIns := [], harness := (true, "296b7b3cedc72d95c6f6c8cf436f5353d4900ae17fc53b384d51f21d3f6e8ab5"), looks := true }, kinds := [], alts := [], laidByText := true, laidKinds := [.handle], laidTests := true, laidLooks := .later }
def PlainCopyUptoCardSaid : Prop := Claim7.holds Tryz.pinned (.plain (OpenSpec.upto plainCopySpec)) plainCopyUptoCard

/-- THE SECOND FORM's CARD OF 'messuagelaw11.PlainFresh'. -/
def plainFreshUptoCard : Claim7 := { stood := { row := plainFreshUptoRow, standIns := [], harness := (true, "296b7b3cedc72d95c6f6c8cf436f5353d4900ae17fc53b384d51f21d3f6e8ab5"), looks := true }, kinds := [], alts := [], laidByText := true, laidKinds := [.handle], laidTests := true, laidLooks := .later }
def PlainFreshUptoCardSaid : Prop := Claim7.holds Tryz.pinned (.plain (OpenSpec.upto plainFreshSpec)) plainFreshUptoCard
end Rows
end Go.Proofs.YtdfhfmdelinemaaGreatDoor
