/-
  DERIVED. GIVEN WITH THE SEED: THE CARDS: each row of YtfpnpgpelncgeabGreatDoorRows.lean that lists a variable, with what it lists TIED to the program's text (the seventh form; the later family's looks); each row that meets fmt, with fmt's text TOLD by the authors' own Lean function (tested against real Go, not proved from fmt's source: count such statements apart). THE CARD IS WHAT COUNTS. Prove the row's statement (the work); the ties are given (YtfpnpgpelncgeabGreatDoorTie.lean); close each card by the builder's one call (the guide's Derived/Test/ToyasCard.lean, 'card_holds'). Laid BY PROGRAM, IN A SANDBOX (cutbox-door.mjs). By AI agents, Wed Nov 11 2026. No macro, syntax, notation, axiom, sorry.
-/
import Derived.Test.YtfpnpgpelncgeabGreatDoorRows
import GoSem.ClaimSeven
namespace Go.Proofs.YtfpnpgpelncgeabGreatDoor
namespace Rows

/-- THE TIED CARD OF 'messuagelaw2.PteEach'. -/
def pteEachCard : Claim7 := { stood := { row := pteEachRow, standIns := [], harness := (true, "052a5d1235c6f1156ec051d36e169e77d7d8b249ffb7e0a658788197f07d7626"), looks := true }, kinds := [], alts := [], laidByText := true, laidKinds := [.handle], laidTests := true, laidLooks := .later }
def PteEachCardSaid : Prop := Claim7.holds Tryz.pinned (.plain (OpenSpec.ofChange pteEachSpec)) pteEachCard

/-- THE TIED CARD OF 'messuagelaw2.PteOne'. -/
def pteOneCard : Claim7 := { stood := { row := pteOneRow, standIns := [], harness := (true, "052a5d1235c6f1156ec051d36e169e77d7d8b249ffb7e0a658788197f07d7626"), looks := true }, kinds := [], alts := [], laidByText := true, laidKinds := [.handle], laidTests := true, laidLooks := .later }
def PteOneCardSaid : Prop := Claim7.holds Tryz.pinned (.plain (OpenSpec.ofChange pteOneSpec)) pteOneCard

/-- THE TIED CARD OF 'messuagelaw2.TableBy'. -/
def tableByCard : Claim7 := { stood := { row := tableByRow, standIns := [], harness := (true, "052a5d1235c6f1156ec051d36e169e77d7d8b249ffb7e0a658788197f07d7626"), looks := true }, kinds := [], alts := [], laidByText := true, laidKinds := [.handle], laidTests := true, laidLooks := .later }
def TableByCardSaid : Prop := Claim7.holds Tryz.pinned (.plain (OpenSpec.ofChange tableBySpec)) tableByCard

/-- THE TIED CARD OF 'messuagelaw2.TlbSets'. -/
def tlbSetsCard : Claim7 := { stood := { row := tlbSetsRow, standIns := [], harness := (true, "052a5d1235c6f1156ec051d36e169e77d7d8b249ffb7e0a658788197f07d7626"), looks := true }, kinds := [], alts := [], laidByText := true, laidKinds := [.handle], laidTests := true, laidLooks := .later }
def TlbSetsCardSaid : Prop := Claim7.holds Tryz.pinned (.plain (OpenSpec.ofChange tlbSetsSpec)) tlbSetsCard

/-- THE TIED CARD OF 'messuagelaw2.TlbFlush'. -/
def tlbFlushCard : Claim7 := { stood := { row := tlbFlushRow, standIns := [], harness := (true, "052a5d1235c6f1156ec051d36e169e77d7d8b249ffb7e0a658788197f07d7626"), looks := true }, kinds := [], alts := [], laidByText := true, laidKinds := [.handle], laidTests := true, laidLooks := .later }
def TlbFlushCardSaid : Prop := Claim7.holds Tryz.pinned (.plain (OpenSpec.ofChange tlbFlushSpec)) tlbFlushCard

/-- THE TIED CARD OF 'messuagelaw2.MailOrder'. -/
def mailOrderCard : Claim7 := { stood := { row := mailOrderRow, standIns := [], harness := (true, "052a5d1235c6f1156ec051d36e169e77d7d8b249ffb7e0a658788197f07d7626"), looks := true }, kinds := [], alts := [], laidByText := true, laidKinds := [.handle], laidTests := true, laidLooks := .later }
def MailOrderCardSaid : Prop := Claim7.holds Tryz.pinned (.plain (OpenSpec.ofChange mailOrderSpec)) mailOrderCard

/-- THE TIED CARD OF 'messuagelaw2.CellCount'. -/
def cellCountCard : Claim7 := { stood := { row := cellCountRow, standIns := [], harness := (true, "052a5d1235c6f1156ec051d36e169e77d7d8b249ffb7e0a658788197f07d7626"), looks := true }, kinds := [], alts := [], laidByText := true, laidKinds := [.handle], laidTests := true, laidLooks := .later }
def CellCountCardSaid : Prop := Claim7.holds Tryz.pinned (.plain (OpenSpec.ofChange cellCountSpec)) cellCountCard

/-- THE TIED CARD OF 'messuagelaw2.CellSwap'. -/
def cellSwapCard : Claim7 := { stood := { row := cellSwapRow, standIns := [], harness := (true, "052a5d1235c6f1156ec051d36e169e77d7d8b249ffb7e0a658788197f07d7626"), looks := true }, kinds := [], alts := [], laidByText := true, laidKinds := [.handle], laidTests := true, laidLooks := .later }
def CellSwapCardSaid : Prop := Claim7.holds Tryz.pinned (.plain (OpenSpec.ofChange cellSwapSpec)) cellSwapCard

/-- THE TIED CARD OF 'messuagelaw2.TicketFair'. -/
def ticketFairCard : Claim7 := { stood := { row := ticketFairRow, standIns := [], harness := (true, "052a5d1235c6f1156ec051d36e169e77d7d8b249ffb7e0a658788197f07d7626"), looks := true }, kinds := [], alts := [], laidByText := true, laidKinds := [.handle], laidTests := true, laidLooks := .later }
def TicketFairCardSaid : Prop := Claim7.holds Tryz.pinned (.plain (OpenSpec.ofChange ticketFairSpec)) ticketFairCard

/-- THE TIED CARD OF 'messuagelaw2.PoolLeast'. -/
def poolLeastCard : Claim7 := { stood := { row := poolLeastRow, standIns := [], harness := (true, "052a5d1235c6f1156ec051d36e169e77d7d8b249ffb7e0a658788197f07d7626"), looks := true }, kinds := [], alts := [], laidByText := true, laidKinds := [.handle], laidTests := true, laidLooks := .later }
def PoolLeastCardSaid : Prop := Claim7.holds Tryz.pinned (.plain (OpenSpec.ofChange poolLeastSpec)) poolLeastCard

/-- THE TIED CARD OF 'messuagelaw2.PoolSeven'. -/
def poolSevenCard : Claim7 := { stood := { row := poolSevenRow, standIns := [], harness := (true, "052a5d1235c6f1156ec051d36e169e77d7d8b249ffb7e0a658788197f07d7626"), looks := true }, kinds := [], alts := [], laidByText := true, laidKinds := [.handle], laidTests := true, laidLooks := .later }
def PoolSevenCardSaid : Prop := Claim7.holds Tryz.pinned (.plain (OpenSpec.ofChange poolSevenSpec)) poolSevenCard

/-- THE SECOND FORM's CARD OF 'messuagelaw2.PteEach'. -/
def pteEachUptoCard : Claim7 := { stood := { row := pteEachUptoRow, standIns := [], harness := (true, "052a5d1235c6f1156ec051d36e169e77d7d8b249ffb7e0a658788197f07d7626"), looks := true }, kinds := [], alts := [], laidByText := true, laidKinds := [.handle], laidTests := true, laidLooks := .later }
def PteEachUptoCardSaid : Prop := Claim7.holds Tryz.pinned (.plain (OpenSpec.upto pteEachSpec)) pteEachUptoCard

/-- THE SECOND FORM's CARD OF 'messuagelaw2.PteOne'. -/
def pteOneUptoCard : Claim7 := { stood := { row := pteOneUptoRow, standIns := [], harness := (true, "052a5d1235c6f1156ec051d36e169e77d7d8b249ffb7e0a658788197f07d7626"), looks := true }, kinds := [], alts := [], laidByText := true, laidKinds := [.handle], laidTests := true, laidLooks := .later }
def PteOneUptoCardSaid : Prop := Claim7.holds Tryz.pinned (.plain (OpenSpec.upto pteOneSpec)) pteOneUptoCard

/-- THE SECOND FORM's CARD OF 'messuagelaw2.TableBy'. -/
def tableByUptoCard : Claim7 := { stood := { row := tableByUptoRow, standIns := [], harness := (true, "052a5d1235c6f1156ec051d36e169e77d7d8b249ffb7e0a658788197f07d7626"), looks := true }, kinds := [], alts := [], laidByText := true, laidKinds := [.handle], laidTests := true, laidLooks := .later }
def TableByUptoCardSaid : Prop := Claim7.holds Tryz.pinned (.plain (OpenSpec.upto tableBySpec)) tableByUptoCard

/-- THE SECOND FORM's CARD OF 'messuagelaw2.TlbSets'. -/
def tlbSetsUptoCard : Claim7 := { stood := { row := tlbSetsUptoRow, standIns := [], harness := (true, "052a5d1235c6f1156ec051d36e169e77d7d8b249ffb7e0a658788197f07d7626"), looks := true }, kinds := [], alts := [], laidByText := true, laidKinds := [.handle], laidTests := true, laidLooks := .later }
def TlbSetsUptoCardSaid : Prop := Claim7.holds Tryz.pinned (.plain (OpenSpec.upto tlbSetsSpec)) tlbSetsUptoCard

/-- THE SECOND FORM's CARD OF 'messuagelaw2.TlbFlush'. -/
def tlbFlushUptoCard : Claim7 := { stood := { row := tlbFlushUptoRow, standIns := [], harness := (true, "052a5d1235c6f1156ec051d36e169e77d7d8b249ffb7e0a658788197f07d7626"), looks := true }, kinds := [], alts := [], laidByText := true, laidKinds := [.handle], laidTests := true, laidLooks := .later }
def TlbFlushUptoCardSaid : Prop := Claim7.holds Tryz.pinned (.plain (OpenSpec.upto tlbFlushSpec)) tlbFlushUptoCard

/-- THE SECOND FORM's CARD OF 'messuagelaw2.MailOrder'. -/
def mailOrderUptoCard : Claim7 := { stood := { row := mailOrderUptoRow, standIns := [], harness := (true, "052a5d1235c6f1156ec051d36e169e77d7d8b249ffb7e0a658788197f07d7626"), looks := true }, kinds := [], alts := [], laidByText := true, laidKinds := [.handle], laidTests := true, laidLooks := .later }
def MailOrderUptoCardSaid : Prop := Claim7.holds Tryz.pinned (.plain (OpenSpec.upto mailOrderSpec)) mailOrderUptoCard

/-- THE SECOND FORM's CARD OF 'messuagelaw2.CellCount'. -/
def cellCountUptoCard : Claim7 := { stood := { row := cellCountUptoRow, standIns := [], harness := (true, "052a5d1235c6f1156ec051d36e169e77d7d8b249ffb7e0a658788197f07d7626"), looks := true }, kinds := [], alts := [], laidByText := true, laidKinds := [.handle], laidTests := true, laidLooks := .later }
def CellCountUptoCardSaid : Prop := Claim7.holds Tryz.pinned (.plain (OpenSpec.upto cellCountSpec)) cellCountUptoCard

/-- THE SECOND FORM's CARD OF 'messuagelaw2.CellSwap'. -/
def cellSwapUptoCard : Claim7 := { stood := { row := cellSwapUptoRow, standIns := [], harness := (true, "052a5d1235c6f1156ec051d36e169e77d7d8b249ffb7e0a658788197f07d7626"), looks := true }, kinds := [], alts := [], laidByText := true, laidKinds := [.handle], laidTests := true, laidLooks := .later }
def CellSwapUptoCardSaid : Prop := Claim7.holds Tryz.pinned (.plain (OpenSpec.upto cellSwapSpec)) cellSwapUptoCard

/-- THE SECOND FORM's CARD OF 'messuagelaw2.TicketFair'. -/
def ticketFairUptoCard : Claim7 := { stood := { row := ticketFairUptoRow, standIns := [], harness := (true, "052a5d1235c6f1156ec051d36e169e77d7d8b249ffb7e0a658788197f07d7626"), looks := true }, kinds := [], alts := [], laidByText := true, laidKinds := [.handle], laidTests := true, laidLooks := .later }
def TicketFairUptoCardSaid : Prop := Claim7.holds Tryz.pinned (.plain (OpenSpec.upto ticketFairSpec)) ticketFairUptoCard

/-- THE SECOND FORM's CARD OF 'messuagelaw2.PoolLeast'. -/
def poolLeastUptoCard : Claim7 := { stood := { row := poolLeastUptoRow, standIns := [], harness := (true, "052a5d1235c6f1156ec051d36e169e77d7d8b249ffb7e0a658788197f07d7626"), looks := true }, kinds := [], alts := [], laidByText := true, laidKinds := [.handle], laidTests := true, laidLooks := .later }
def PoolLeastUptoCardSaid : Prop := Claim7.holds Tryz.pinned (.plain (OpenSpec.upto poolLeastSpec)) poolLeastUptoCard

/-- THE SECOND FORM's CARD OF 'messuagelaw2.PoolSeven'. -/
def poolSevenUptoCard : Claim7 := { stood := { row := poolSevenUptoRow, standIns := [], harness := (true, "052a5d1235c6f1156ec051d36e169e77d7d8b249ffb7e0a658788197f07d7626"), looks := true }, kinds := [], alts := [], laidByText := true, laidKinds := [.handle], laidTests := true, laidLooks := .later }
def PoolSevenUptoCardSaid : Prop := Claim7.holds Tryz.pinned (.plain (OpenSpec.upto poolSevenSpec)) poolSevenUptoCard
end Rows
end Go.Proofs.YtfpnpgpelncgeabGreatDoor
