/-
  DERIVED. GIVEN WITH THE SEED: THE CARDS: each row of YtbmekfjcpdbapaaGreatDoorRows.lean that lists a variable, with what it lists TIED to the program's text (the seventh form; the later family's looks); each row that meets fmt, with fmt's text TOLD by the authors' own Lean function (tested against real Go, not proved from fmt's source: count such statements apart). THE CARD IS WHAT COUNTS. Prove the row's statement (the work); the ties are given (YtbmekfjcpdbapaaGreatDoorTie.lean); close each card by the builder's one call (the guide's Derived/Test/ToyasCard.lean, 'card_holds'). Laid BY PROGRAM, IN A SANDBOX (cutbox-door.mjs). By AI agents, Wed Nov 11 2026. No macro, syntax, notation, axiom, sorry.
-/
import Derived.Test.YtbmekfjcpdbapaaGreatDoorRows
import GoSem.ClaimSeven
namespace Go.Proofs.YtbmekfjcpdbapaaGreatDoor
namespace Rows

/-- THE TIED CARD OF 'messuagelaw11.PlainAll'. -/
def plainAllCard : Claim7 := { stood := { row := plainAllRow, standIns := [], harness := (true, "cde60a8bbaa0343df140cbd81fae4a64d88b6c364e5638f321a80d45f20f9dc1"), looks := true }, kinds := [], alts := [], laidByText := true, laidKinds := [.handle], laidTests := true, laidLooks := .later }
def PlainAllCardSaid : Prop := Claim7.holds Tryz.pinned (.plain (OpenSpec.ofChange plainAllSpec)) plainAllCard

/-- THE TIED CARD OF 'messuagelaw11.PlainErr'. -/
def plainErrCard : Claim7 := { stood := { row := plainErrRow, standIns := [], harness := (true, "cde60a8bbaa0343df140cbd81fae4a64d88b6c364e5638f321a80d45f20f9dc1"), looks := true }, kinds := [], alts := [], laidByText := true, laidKinds := [.handle], laidTests := true, laidLooks := .later }
def PlainErrCardSaid : Prop := Claim7.holds Tryz.pinned (.plain (OpenSpec.ofChange plainErrSpec)) plainErrCard

/-- THE TIED CARD OF 'messuagelaw11.PlainCopy'. -/
def plainCopyCard : Claim7 := { stood := { row := plainCopyRow, standIns := [], harness := (true, "cde60a8bbaa0343df140cbd81fae4a64d88b6c364e5638f321a80d45f20f9dc1"), looks := true }, kinds := [], alts := [], laidByText := true, laidKinds := [.handle], laidTests := true, laidLooks := .later }
def PlainCopyCardSaid : Prop := Claim7.holds Tryz.pinned (.plain (OpenSpec.ofChange plainCopySpec)) plainCopyCard

/-- THE TIED CARD OF 'messuagelaw11.PlainFresh'. -/
def plainFreshCard : Claim7 := { stood := { row := plainFreshRow, standIns := [], harness := (true, "cde60a8bbaa0343df140cbd81fae4a64d88b6c364e5638f321a80d45f20f9dc1"), looks := true }, kinds := [], alts := [], laidByText := true, laidKinds := [.handle], laidTests := true, laidLooks := .later }
def PlainFreshCardSaid : Prop := Claim7.holds Tryz.pinned (.plain (OpenSpec.ofChange plainFreshSpec)) plainFreshCard

/-- THE TIED CARD OF 'messuagelaw11.PlainAlloc'. -/
def plainAllocCard : Claim7 := { stood := { row := plainAllocRow, standIns := [], harness := (true, "cde60a8bbaa0343df140cbd81fae4a64d88b6c364e5638f321a80d45f20f9dc1"), looks := true }, kinds := [], alts := [], laidByText := true, laidKinds := [.handle], laidTests := true, laidLooks := .later }
def PlainAllocCardSaid : Prop := Claim7.holds Tryz.pinned (.plain (OpenSpec.ofChange plainAllocSpec)) plainAllocCard

/-- THE TIED CARD OF 'messuagelaw11.PlainShare'. -/
def plainShareCard : Claim7 := { stood := { row := plainShareRow, standIns := [], harness := (true, "cde60a8bbaa0343df140cbd81fae4a64d88b6c364e5638f321a80d45f20f9dc1"), looks := true }, kinds := [], alts := [], laidByText := true, laidKinds := [.handle], laidTests := true, laidLooks := .later }
def PlainShareCardSaid : Prop := Claim7.holds Tryz.pinned (.plain (OpenSpec.ofChange plainShareSpec)) plainShareCard

/-- THE TIED CARD OF 'messuagelaw11.PlainProtect'. -/
def plainProtectCard : Claim7 := { stood := { row := plainProtectRow, standIns := [], harness := (true, "cde60a8bbaa0343df140cbd81fae4a64d88b6c364e5638f321a80d45f20f9dc1"), looks := true }, kinds := [], alts := [], laidByText := true, laidKinds := [.handle], laidTests := true, laidLooks := .later }
def PlainProtectCardSaid : Prop := Claim7.holds Tryz.pinned (.plain (OpenSpec.ofChange plainProtectSpec)) plainProtectCard

/-- THE TIED CARD OF 'messuagelaw11.PlainFull'. -/
def plainFullCard : Claim7 := { stood := { row := plainFullRow, standIns := [], harness := (true, "cde60a8bbaa0343df140cbd81fae4a64d88b6c364e5638f321a80d45f20f9dc1"), looks := true }, kinds := [], alts := [], laidByText := true, laidKinds := [.handle], laidTests := true, laidLooks := .later }
def PlainFullCardSaid : Prop := Claim7.holds Tryz.pinned (.plain (OpenSpec.ofChange plainFullSpec)) plainFullCard

/-- THE TIED CARD OF 'messuagelaw11.PlainSleep'. -/
def plainSleepCard : Claim7 := { stood := { row := plainSleepRow, standIns := [], harness := (true, "cde60a8bbaa0343df140cbd81fae4a64d88b6c364e5638f321a80d45f20f9dc1"), looks := true }, kinds := [], alts := [], laidByText := true, laidKinds := [.handle], laidTests := true, laidLooks := .later }
def PlainSleepCardSaid : Prop := Claim7.holds Tryz.pinned (.plain (OpenSpec.ofChange plainSleepSpec)) plainSleepCard

/-- THE TIED CARD OF 'messuagelaw11.PlainOrder'. -/
def plainOrderCard : Claim7 := { stood := { row := plainOrderRow, standIns := [], harness := (true, "cde60a8bbaa0343df140cbd81fae4a64d88b6c364e5638f321a80d45f20f9dc1"), looks := true }, kinds := [], alts := [], laidByText := true, laidKinds := [.handle], laidTests := true, laidLooks := .later }
def PlainOrderCardSaid : Prop := Claim7.holds Tryz.pinned (.plain (OpenSpec.ofChange plainOrderSpec)) plainOrderCard

/-- THE TIED CARD OF 'messuagelaw11.PlainDrop'. -/
def plainDropCard : Claim7 := { stood := { row := plainDropRow, standIns := [], harness := (true, "cde60a8bbaa0343df140cbd81fae4a64d88b6c364e5638f321a80d45f20f9dc1"), looks := true }, kinds := [], alts := [], laidByText := true, laidKinds := [.handle], laidTests := true, laidLooks := .later }
def PlainDropCardSaid : Prop := Claim7.holds Tryz.pinned (.plain (OpenSpec.ofChange plainDropSpec)) plainDropCard

/-- THE TIED CARD OF 'messuagelaw11.PlainApart'. -/
def plainApartCard : Claim7 := { stood := { row := plainApartRow, standIns := [], harness := (true, "cde60a8bbaa0343df140cbd81fae4a64d88b6c364e5638f321a80d45f20f9dc1"), looks := true }, kinds := [], alts := [], laidByText := true, laidKinds := [.handle], laidTests := true, laidLooks := .later }
def PlainApartCardSaid : Prop := Claim7.holds Tryz.pinned (.plain (OpenSpec.ofChange plainApartSpec)) plainApartCard

/-- THE TIED CARD OF 'messuagelaw11.PlainRemap'. -/
def plainRemapCard : Claim7 := { stood := { row := plainRemapRow, standIns := [], harness := (true, "cde60a8bbaa0343df140cbd81fae4a64d88b6c364e5638f321a80d45f20f9dc1"), looks := true }, kinds := [], alts := [], laidByText := true, laidKinds := [.handle], laidTests := true, laidLooks := .later }
def PlainRemapCardSaid : Prop := Claim7.holds Tryz.pinned (.plain (OpenSpec.ofChange plainRemapSpec)) plainRemapCard

/-- THE TIED CARD OF 'messuagelaw11.PlainPages'. -/
def plainPagesCard : Claim7 := { stood := { row := plainPagesRow, standIns := [], harness := (true, "cde60a8bbaa0343df140cbd81fae4a64d88b6c364e5638f321a80d45f20f9dc1"), looks := true }, kinds := [], alts := [], laidByText := true, laidKinds := [.handle], laidTests := true, laidLooks := .later }
def PlainPagesCardSaid : Prop := Claim7.holds Tryz.pinned (.plain (OpenSpec.ofChange plainPagesSpec)) plainPagesCard

/-- THE SECOND FORM's CARD OF 'messuagelaw11.PlainAll'. -/
def plainAllUptoCard : Claim7 := { stood := { row := plainAllUptoRow, standIns := [], harness := (true, "cde60a8bbaa0343df140cbd81fae4a64d88b6c364e5638f321a80d45f20f9dc1"), looks := true }, kinds := [], alts := [], laidByText := true, laidKinds := [.handle], laidTests := true, laidLooks := .later }
def PlainAllUptoCardSaid : Prop := Claim7.holds Tryz.pinned (.plain (OpenSpec.upto plainAllSpec)) plainAllUptoCard

/-- THE SECOND FORM's CARD OF 'messuagelaw11.PlainErr'. -/
def plainErrUptoCard : Claim7 := { stood := { row := plainErrUptoRow, standIns := [], harness := (true, "cde60a8bbaa0343df140cbd81fae4a64d88b6c364e5638f321a80d45f20f9dc1"), looks := true }, kinds := [], alts := [], laidByText := true, laidKinds := [.handle], laidTests := true, laidLooks := .later }
def PlainErrUptoCardSaid : Prop := Claim7.holds Tryz.pinned (.plain (OpenSpec.upto plainErrSpec)) plainErrUptoCard

/-- THE SECOND FORM's CARD OF 'messuagelaw11.PlainCopy'. -/
def plainCopyUptoCard : Claim7 := { stood := { row := plainCopyUptoRow, standIns := [], harness := (true, "cde60a8bbaa0343df140cbd81fae4a64d88b6c364e5638f321a80d45f20f9dc1"), looks := true }, kinds := [], alts := [], laidByText := true, laidKinds := [.handle], laidTests := true, laidLooks := .later }
def PlainCopyUptoCardSaid : Prop := Claim7.holds Tryz.pinned (.plain (OpenSpec.upto plainCopySpec)) plainCopyUptoCard

/-- THE SECOND FORM's CARD OF 'messuagelaw11.PlainFresh'. -/
def plainFreshUptoCard : Claim7 := { stood := { row := plainFreshUptoRow, standIns := [], harness := (true, "cde60a8bbaa0343df140cbd81fae4a64d88b6c364e5638f321a80d45f20f9dc1"), looks := true }, kinds := [], alts := [], laidByText := true, laidKinds := [.handle], laidTests := true, laidLooks := .later }
def PlainFreshUptoCardSaid : Prop := Claim7.holds Tryz.pinned (.plain (OpenSpec.upto plainFreshSpec)) plainFreshUptoCard

/-- THE SECOND FORM's CARD OF 'messuagelaw11.PlainAlloc'. -/
def plainAllocUptoCard : Claim7 := { stood := { row := plainAllocUptoRow, standIns := [], harness := (true, "cde60a8bbaa0343df140cbd81fae4a64d88b6c364e5638f321a80d45f20f9dc1"), looks := true }, kinds := [], alts := [], laidByText := true, laidKinds := [.handle], laidTests := true, laidLooks := .later }
def PlainAllocUptoCardSaid : Prop := Claim7.holds Tryz.pinned (.plain (OpenSpec.upto plainAllocSpec)) plainAllocUptoCard

/-- THE SECOND FORM's CARD OF 'messuagelaw11.PlainShare'. -/
def plainShareUptoCard : Claim7 := { stood := { row := plainShareUptoRow, standIns := [], harness := (true, "cde60a8bbaa0343df140cbd81fae4a64d88b6c364e5638f321a80d45f20f9dc1"), looks := true }, kinds := [], alts := [], laidByText := true, laidKinds := [.handle], laidTests := true, laidLooks := .later }
def PlainShareUptoCardSaid : Prop := Claim7.holds Tryz.pinned (.plain (OpenSpec.upto plainShareSpec)) plainShareUptoCard

/-- THE SECOND FORM's CARD OF 'messuagelaw11.PlainProtect'. -/
def plainProtectUptoCard : Claim7 := { stood := { row := plainProtectUptoRow, standIns := [], harness := (true, "cde60a8bbaa0343df140cbd81fae4a64d88b6c364e5638f321a80d45f20f9dc1"), looks := true }, kinds := [], alts := [], laidByText := true, laidKinds := [.handle], laidTests := true, laidLooks := .later }
def PlainProtectUptoCardSaid : Prop := Claim7.holds Tryz.pinned (.plain (OpenSpec.upto plainProtectSpec)) plainProtectUptoCard

/-- THE SECOND FORM's CARD OF 'messuagelaw11.PlainFull'. -/
def plainFullUptoCard : Claim7 := { stood := { row := plainFullUptoRow, standIns := [], harness := (true, "cde60a8bbaa0343df140cbd81fae4a64d88b6c364e5638f321a80d45f20f9dc1"), looks := true }, kinds := [], alts := [], laidByText := true, laidKinds := [.handle], laidTests := true, laidLooks := .later }
def PlainFullUptoCardSaid : Prop := Claim7.holds Tryz.pinned (.plain (OpenSpec.upto plainFullSpec)) plainFullUptoCard

/-- THE SECOND FORM's CARD OF 'messuagelaw11.PlainSleep'. -/
def plainSleepUptoCard : Claim7 := { stood := { row := plainSleepUptoRow, standIns := [], harness := (true, "cde60a8bbaa0343df140cbd81fae4a64d88b6c364e5638f321a80d45f20f9dc1"), looks := true }, kinds := [], alts := [], laidByText := true, laidKinds := [.handle], laidTests := true, laidLooks := .later }
def PlainSleepUptoCardSaid : Prop := Claim7.holds Tryz.pinned (.plain (OpenSpec.upto plainSleepSpec)) plainSleepUptoCard

/-- THE SECOND FORM's CARD OF 'messuagelaw11.PlainOrder'. -/
def plainOrderUptoCard : Claim7 := { stood := { row := plainOrderUptoRow, standIns := [], harness := (true, "cde60a8bbaa0343df140cbd81fae4a64d88b6c364e5638f321a80d45f20f9dc1"), looks := true }, kinds := [], alts := [], laidByText := true, laidKinds := [.handle], laidTests := true, laidLooks := .later }
def PlainOrderUptoCardSaid : Prop := Claim7.holds Tryz.pinned (.plain (OpenSpec.upto plainOrderSpec)) plainOrderUptoCard

/-- THE SECOND FORM's CARD OF 'messuagelaw11.PlainDrop'. -/
def plainDropUptoCard : Claim7 := { stood := { row := plainDropUptoRow, standIns := [], harness := (true, "cde60a8bbaa0343df140cbd81fae4a64d88b6c364e5638f321a80d45f20f9dc1"), looks := true }, kinds := [], alts := [], laidByText := true, laidKinds := [.handle], laidTests := true, laidLooks := .later }
def PlainDropUptoCardSaid : Prop := Claim7.holds Tryz.pinned (.plain (OpenSpec.upto plainDropSpec)) plainDropUptoCard

/-- THE SECOND FORM's CARD OF 'messuagelaw11.PlainApart'. -/
def plainApartUptoCard : Claim7 := { stood := { row := plainApartUptoRow, standIns := [], harness := (true, "cde60a8bbaa0343df140cbd81fae4a64d88b6c364e5638f321a80d45f20f9dc1"), looks := true }, kinds := [], alts := [], laidByText := true, laidKinds := [.handle], laidTests := true, laidLooks := .later }
def PlainApartUptoCardSaid : Prop := Claim7.holds Tryz.pinned (.plain (OpenSpec.upto plainApartSpec)) plainApartUptoCard

/-- THE SECOND FORM's CARD OF 'messuagelaw11.PlainRemap'. -/
def plainRemapUptoCard : Claim7 := { stood := { row := plainRemapUptoRow, standIns := [], harness := (true, "cde60a8bbaa0343df140cbd81fae4a64d88b6c364e5638f321a80d45f20f9dc1"), looks := true }, kinds := [], alts := [], laidByText := true, laidKinds := [.handle], laidTests := true, laidLooks := .later }
def PlainRemapUptoCardSaid : Prop := Claim7.holds Tryz.pinned (.plain (OpenSpec.upto plainRemapSpec)) plainRemapUptoCard

/-- THE SECOND FORM's CARD OF 'messuagelaw11.PlainPages'. -/
def plainPagesUptoCard : Claim7 := { stood := { row := plainPagesUptoRow, standIns := [], harness := (true, "cde60a8bbaa0343df140cbd81fae4a64d88b6c364e5638f321a80d45f20f9dc1"), looks := true }, kinds := [], alts := [], laidByText := true, laidKinds := [.handle], laidTests := true, laidLooks := .later }
def PlainPagesUptoCardSaid : Prop := Claim7.holds Tryz.pinned (.plain (OpenSpec.upto plainPagesSpec)) plainPagesUptoCard
end Rows
end Go.Proofs.YtbmekfjcpdbapaaGreatDoor
