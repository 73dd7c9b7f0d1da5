/-
  DERIVED. GIVEN WITH THE SEED: THE CARDS: each row of YtfpnpgpelncgeaaGreatDoorRows.lean that lists a variable, with what it lists TIED to the program's text (the seventh form; the later family's looks); each row that meets fmt, with fmt's text TOLD by the authors' own Lean function (tested against real Go, not proved from fmt's source: count such statements apart). THE CARD IS WHAT COUNTS. Prove the row's statement (the work); the ties are given (YtfpnpgpelncgeaaGreatDoorTie.lean); close each card by the builder's one call (the guide's Derived/Test/ToyasCard.lean, 'card_holds'). Laid BY PROGRAM, IN A SANDBOX (cutbox-door.mjs). By AI agents, Wed Nov 11 2026. No macro, syntax, notation, axiom, sorry.
-/
import Derived.Test.YtfpnpgpelncgeaaGreatDoorRows
import GoSem.ClaimSeven
namespace Go.Proofs.YtfpnpgpelncgeaaGreatDoor
namespace Rows

/-- THE TIED CARD OF 'messuagelaw2.WordAll'. -/
def wordAllCard : Claim7 := { stood := { row := wordAllRow, standIns := [], harness := (true, "f33be0703b708eba8a3ff334365f141c89bb2186cf8a9f75a0351cb0ab58caa8"), looks := true }, kinds := [], alts := [], laidByText := true, laidKinds := [.handle], laidTests := true, laidLooks := .later }
def WordAllCardSaid : Prop := Claim7.holds Tryz.pinned (.plain (OpenSpec.ofChange wordAllSpec)) wordAllCard

/-- THE TIED CARD OF 'messuagelaw2.PteAll'. -/
def pteAllCard : Claim7 := { stood := { row := pteAllRow, standIns := [], harness := (true, "f33be0703b708eba8a3ff334365f141c89bb2186cf8a9f75a0351cb0ab58caa8"), looks := true }, kinds := [], alts := [], laidByText := true, laidKinds := [.handle], laidTests := true, laidLooks := .later }
def PteAllCardSaid : Prop := Claim7.holds Tryz.pinned (.plain (OpenSpec.ofChange pteAllSpec)) pteAllCard

/-- THE TIED CARD OF 'messuagelaw2.TableAll'. -/
def tableAllCard : Claim7 := { stood := { row := tableAllRow, standIns := [], harness := (true, "f33be0703b708eba8a3ff334365f141c89bb2186cf8a9f75a0351cb0ab58caa8"), looks := true }, kinds := [], alts := [], laidByText := true, laidKinds := [.handle], laidTests := true, laidLooks := .later }
def TableAllCardSaid : Prop := Claim7.holds Tryz.pinned (.plain (OpenSpec.ofChange tableAllSpec)) tableAllCard

/-- THE TIED CARD OF 'messuagelaw2.TlbAll'. -/
def tlbAllCard : Claim7 := { stood := { row := tlbAllRow, standIns := [], harness := (true, "f33be0703b708eba8a3ff334365f141c89bb2186cf8a9f75a0351cb0ab58caa8"), looks := true }, kinds := [], alts := [], laidByText := true, laidKinds := [.handle], laidTests := true, laidLooks := .later }
def TlbAllCardSaid : Prop := Claim7.holds Tryz.pinned (.plain (OpenSpec.ofChange tlbAllSpec)) tlbAllCard

/-- THE TIED CARD OF 'messuagelaw2.MailAll'. -/
def mailAllCard : Claim7 := { stood := { row := mailAllRow, standIns := [], harness := (true, "f33be0703b708eba8a3ff334365f141c89bb2186cf8a9f75a0351cb0ab58caa8"), looks := true }, kinds := [], alts := [], laidByText := true, laidKinds := [.handle], laidTests := true, laidLooks := .later }
def MailAllCardSaid : Prop := Claim7.holds Tryz.pinned (.plain (OpenSpec.ofChange mailAllSpec)) mailAllCard

/-- THE TIED CARD OF 'messuagelaw2.CellAll'. -/
def cellAllCard : Claim7 := { stood := { row := cellAllRow, standIns := [], harness := (true, "f33be0703b708eba8a3ff334365f141c89bb2186cf8a9f75a0351cb0ab58caa8"), looks := true }, kinds := [], alts := [], laidByText := true, laidKinds := [.handle], laidTests := true, laidLooks := .later }
def CellAllCardSaid : Prop := Claim7.holds Tryz.pinned (.plain (OpenSpec.ofChange cellAllSpec)) cellAllCard

/-- THE TIED CARD OF 'messuagelaw2.TicketAll'. -/
def ticketAllCard : Claim7 := { stood := { row := ticketAllRow, standIns := [], harness := (true, "f33be0703b708eba8a3ff334365f141c89bb2186cf8a9f75a0351cb0ab58caa8"), looks := true }, kinds := [], alts := [], laidByText := true, laidKinds := [.handle], laidTests := true, laidLooks := .later }
def TicketAllCardSaid : Prop := Claim7.holds Tryz.pinned (.plain (OpenSpec.ofChange ticketAllSpec)) ticketAllCard

/-- THE TIED CARD OF 'messuagelaw2.WordEach'. -/
def wordEachCard : Claim7 := { stood := { row := wordEachRow, standIns := [], harness := (true, "f33be0703b708eba8a3ff334365f141c89bb2186cf8a9f75a0351cb0ab58caa8"), looks := true }, kinds := [], alts := [], laidByText := true, laidKinds := [.handle], laidTests := true, laidLooks := .later }
def WordEachCardSaid : Prop := Claim7.holds Tryz.pinned (.plain (OpenSpec.ofChange wordEachSpec)) wordEachCard

/-- THE TIED CARD OF 'messuagelaw2.WordEdge'. -/
def wordEdgeCard : Claim7 := { stood := { row := wordEdgeRow, standIns := [], harness := (true, "f33be0703b708eba8a3ff334365f141c89bb2186cf8a9f75a0351cb0ab58caa8"), looks := true }, kinds := [], alts := [], laidByText := true, laidKinds := [.handle], laidTests := true, laidLooks := .later }
def WordEdgeCardSaid : Prop := Claim7.holds Tryz.pinned (.plain (OpenSpec.ofChange wordEdgeSpec)) wordEdgeCard

/-- THE TIED CARD OF 'messuagelaw2.WordOrder'. -/
def wordOrderCard : Claim7 := { stood := { row := wordOrderRow, standIns := [], harness := (true, "f33be0703b708eba8a3ff334365f141c89bb2186cf8a9f75a0351cb0ab58caa8"), looks := true }, kinds := [], alts := [], laidByText := true, laidKinds := [.handle], laidTests := true, laidLooks := .later }
def WordOrderCardSaid : Prop := Claim7.holds Tryz.pinned (.plain (OpenSpec.ofChange wordOrderSpec)) wordOrderCard

/-- THE TIED CARD OF 'messuagelaw2.MemOwn'. -/
def memOwnCard : Claim7 := { stood := { row := memOwnRow, standIns := [], harness := (true, "f33be0703b708eba8a3ff334365f141c89bb2186cf8a9f75a0351cb0ab58caa8"), looks := true }, kinds := [], alts := [], laidByText := true, laidKinds := [.handle], laidTests := true, laidLooks := .later }
def MemOwnCardSaid : Prop := Claim7.holds Tryz.pinned (.plain (OpenSpec.ofChange memOwnSpec)) memOwnCard

/-- THE TIED CARD OF 'messuagelaw2.MemAtomic'. -/
def memAtomicCard : Claim7 := { stood := { row := memAtomicRow, standIns := [], harness := (true, "f33be0703b708eba8a3ff334365f141c89bb2186cf8a9f75a0351cb0ab58caa8"), looks := true }, kinds := [], alts := [], laidByText := true, laidKinds := [.handle], laidTests := true, laidLooks := .later }
def MemAtomicCardSaid : Prop := Claim7.holds Tryz.pinned (.plain (OpenSpec.ofChange memAtomicSpec)) memAtomicCard

/-- THE SECOND FORM's CARD OF 'messuagelaw2.WordAll'. -/
def wordAllUptoCard : Claim7 := { stood := { row := wordAllUptoRow, standIns := [], harness := (true, "f33be0703b708eba8a3ff334365f141c89bb2186cf8a9f75a0351cb0ab58caa8"), looks := true }, kinds := [], alts := [], laidByText := true, laidKinds := [.handle], laidTests := true, laidLooks := .later }
def WordAllUptoCardSaid : Prop := Claim7.holds Tryz.pinned (.plain (OpenSpec.upto wordAllSpec)) wordAllUptoCard

/-- THE SECOND FORM's CARD OF 'messuagelaw2.PteAll'. -/
def pteAllUptoCard : Claim7 := { stood := { row := pteAllUptoRow, standIns := [], harness := (true, "f33be0703b708eba8a3ff334365f141c89bb2186cf8a9f75a0351cb0ab58caa8"), looks := true }, kinds := [], alts := [], laidByText := true, laidKinds := [.handle], laidTests := true, laidLooks := .later }
def PteAllUptoCardSaid : Prop := Claim7.holds Tryz.pinned (.plain (OpenSpec.upto pteAllSpec)) pteAllUptoCard

/-- THE SECOND FORM's CARD OF 'messuagelaw2.TableAll'. -/
def tableAllUptoCard : Claim7 := { stood := { row := tableAllUptoRow, standIns := [], harness := (true, "f33be0703b708eba8a3ff334365f141c89bb2186cf8a9f75a0351cb0ab58caa8"), looks := true }, kinds := [], alts := [], laidByText := true, laidKinds := [.handle], laidTests := true, laidLooks := .later }
def TableAllUptoCardSaid : Prop := Claim7.holds Tryz.pinned (.plain (OpenSpec.upto tableAllSpec)) tableAllUptoCard

/-- THE SECOND FORM's CARD OF 'messuagelaw2.TlbAll'. -/
def tlbAllUptoCard : Claim7 := { stood := { row := tlbAllUptoRow, standIns := [], harness := (true, "f33be0703b708eba8a3ff334365f141c89bb2186cf8a9f75a0351cb0ab58caa8"), looks := true }, kinds := [], alts := [], laidByText := true, laidKinds := [.handle], laidTests := true, laidLooks := .later }
def TlbAllUptoCardSaid : Prop := Claim7.holds Tryz.pinned (.plain (OpenSpec.upto tlbAllSpec)) tlbAllUptoCard

/-- THE SECOND FORM's CARD OF 'messuagelaw2.MailAll'. -/
def mailAllUptoCard : Claim7 := { stood := { row := mailAllUptoRow, standIns := [], harness := (true, "f33be0703b708eba8a3ff334365f141c89bb2186cf8a9f75a0351cb0ab58caa8"), looks := true }, kinds := [], alts := [], laidByText := true, laidKinds := [.handle], laidTests := true, laidLooks := .later }
def MailAllUptoCardSaid : Prop := Claim7.holds Tryz.pinned (.plain (OpenSpec.upto mailAllSpec)) mailAllUptoCard

/-- THE SECOND FORM's CARD OF 'messuagelaw2.CellAll'. -/
def cellAllUptoCard : Claim7 := { stood := { row := cellAllUptoRow, standIns := [], harness := (true, "f33be0703b708eba8a3ff334365f141c89bb2186cf8a9f75a0351cb0ab58caa8"), looks := true }, kinds := [], alts := [], laidByText := true, laidKinds := [.handle], laidTests := true, laidLooks := .later }
def CellAllUptoCardSaid : Prop := Claim7.holds Tryz.pinned (.plain (OpenSpec.upto cellAllSpec)) cellAllUptoCard

/-- THE SECOND FORM's CARD OF 'messuagelaw2.TicketAll'. -/
def ticketAllUptoCard : Claim7 := { stood := { row := ticketAllUptoRow, standIns := [], harness := (true, "f33be0703b708eba8a3ff334365f141c89bb2186cf8a9f75a0351cb0ab58caa8"), looks := true }, kinds := [], alts := [], laidByText := true, laidKinds := [.handle], laidTests := true, laidLooks := .later }
def TicketAllUptoCardSaid : Prop := Claim7.holds Tryz.pinned (.plain (OpenSpec.upto ticketAllSpec)) ticketAllUptoCard

/-- THE SECOND FORM's CARD OF 'messuagelaw2.WordEach'. -/
def wordEachUptoCard : Claim7 := { stood := { row := wordEachUptoRow, standIns := [], harness := (true, "f33be0703b708eba8a3ff334365f141c89bb2186cf8a9f75a0351cb0ab58caa8"), looks := true }, kinds := [], alts := [], laidByText := true, laidKinds := [.handle], laidTests := true, laidLooks := .later }
def WordEachUptoCardSaid : Prop := Claim7.holds Tryz.pinned (.plain (OpenSpec.upto wordEachSpec)) wordEachUptoCard

/-- THE SECOND FORM's CARD OF 'messuagelaw2.WordEdge'. -/
def wordEdgeUptoCard : Claim7 := { stood := { row := wordEdgeUptoRow, standIns := [], harness := (true, "f33be0703b708eba8a3ff334365f141c89bb2186cf8a9f75a0351cb0ab58caa8"), looks := true }, kinds := [], alts := [], laidByText := true, laidKinds := [.handle], laidTests := true, laidLooks := .later }
def WordEdgeUptoCardSaid : Prop := Claim7.holds Tryz.pinned (.plain (OpenSpec.upto wordEdgeSpec)) wordEdgeUptoCard

/-- THE SECOND FORM's CARD OF 'messuagelaw2.WordOrder'. -/
def wordOrderUptoCard : Claim7 := { stood := { row := wordOrderUptoRow, standIns := [], harness := (true, "f33be0703b708eba8a3ff334365f141c89bb2186cf8a9f75a0351cb0ab58caa8"), looks := true }, kinds := [], alts := [], laidByText := true, laidKinds := [.handle], laidTests := true, laidLooks := .later }
def WordOrderUptoCardSaid : Prop := Claim7.holds Tryz.pinned (.plain (OpenSpec.upto wordOrderSpec)) wordOrderUptoCard

/-- THE SECOND FORM's CARD OF 'messuagelaw2.MemOwn'. -/
def memOwnUptoCard : Claim7 := { stood := { row := memOwnUptoRow, standIns := [], harness := (true, "f33be0703b708eba8a3ff334365f141c89bb2186cf8a9f75a0351cb0ab58caa8"), looks := true }, kinds := [], alts := [], laidByText := true, laidKinds := [.handle], laidTests := true, laidLooks := .later }
def MemOwnUptoCardSaid : Prop := Claim7.holds Tryz.pinned (.plain (OpenSpec.upto memOwnSpec)) memOwnUptoCard

/-- THE SECOND FORM's CARD OF 'messuagelaw2.MemAtomic'. -/
def memAtomicUptoCard : Claim7 := { stood := { row := memAtomicUptoRow, standIns := [], harness := (true, "f33be0703b708eba8a3ff334365f141c89bb2186cf8a9f75a0351cb0ab58caa8"), looks := true }, kinds := [], alts := [], laidByText := true, laidKinds := [.handle], laidTests := true, laidLooks := .later }
def MemAtomicUptoCardSaid : Prop := Claim7.holds Tryz.pinned (.plain (OpenSpec.upto memAtomicSpec)) memAtomicUptoCard
end Rows
end Go.Proofs.YtfpnpgpelncgeaaGreatDoor
