/-
  DERIVED. GIVEN WITH THE SEED: THE CARDS: each row of YtiejefehcpfkaaaDoorRows.lean that lists a variable, with what it lists TIED to the program's text (the seventh form; the later family's looks); each row that meets fmt, with fmt's text TOLD by the authors' own Lean function (tested against real Go, not proved from fmt's source: count such statements apart). THE CARD IS WHAT COUNTS. Prove the row's statement (the work); the ties are given (YtiejefehcpfkaaaDoorTie.lean); close each card by the builder's one call (the guide's Derived/Test/ToyasCard.lean, 'card_holds'). Laid BY PROGRAM, IN A SANDBOX (cutbox-door.mjs). By AI agents, Wed Nov 11 2026. No macro, syntax, notation, axiom, sorry.
-/
import Derived.Test.YtiejefehcpfkaaaDoorRows
import GoSem.ClaimSeven
namespace Go.Proofs.YtiejefehcpfkaaaDoor
namespace Rows

/-- THE TIED CARD OF 'giornatalaw05.OrderChecks'. -/
def orderChecksCard : Claim7 := { stood := { row := orderChecksRow, standIns := [], harness := (true, "3802c3c3ef4d64566898fef001bf7c7543fdb640cbc69497521df8e521673a9d"), looks := false }, kinds := [], alts := [], laidByText := true, laidKinds := [.data], laidTests := true, laidLooks := .later }
def OrderChecksCardSaid : Prop := Claim7.holds Tryd.pinned (.plain (OpenSpec.ofChange orderChecksSpec)) orderChecksCard

/-- THE TIED CARD OF 'giornatalaw05.OrderCircles'. -/
def orderCirclesCard : Claim7 := { stood := { row := orderCirclesRow, standIns := [], harness := (true, "3802c3c3ef4d64566898fef001bf7c7543fdb640cbc69497521df8e521673a9d"), looks := false }, kinds := [], alts := [], laidByText := true, laidKinds := [.data], laidTests := true, laidLooks := .later }
def OrderCirclesCardSaid : Prop := Claim7.holds Tryd.pinned (.plain (OpenSpec.ofChange orderCirclesSpec)) orderCirclesCard

/-- THE TIED CARD OF 'giornatalaw05.OrderFirsts'. -/
def orderFirstsCard : Claim7 := { stood := { row := orderFirstsRow, standIns := [], harness := (true, "3802c3c3ef4d64566898fef001bf7c7543fdb640cbc69497521df8e521673a9d"), looks := false }, kinds := [], alts := [], laidByText := true, laidKinds := [.data], laidTests := true, laidLooks := .later }
def OrderFirstsCardSaid : Prop := Claim7.holds Tryd.pinned (.plain (OpenSpec.ofChange orderFirstsSpec)) orderFirstsCard

/-- THE TIED CARD OF 'giornatalaw05.OrderCloses'. -/
def orderClosesCard : Claim7 := { stood := { row := orderClosesRow, standIns := [], harness := (true, "3802c3c3ef4d64566898fef001bf7c7543fdb640cbc69497521df8e521673a9d"), looks := false }, kinds := [], alts := [], laidByText := true, laidKinds := [.data], laidTests := true, laidLooks := .later }
def OrderClosesCardSaid : Prop := Claim7.holds Tryd.pinned (.plain (OpenSpec.ofChange orderClosesSpec)) orderClosesCard

/-- THE TIED CARD OF 'giornatalaw05.OrderCounts'. -/
def orderCountsCard : Claim7 := { stood := { row := orderCountsRow, standIns := [], harness := (true, "3802c3c3ef4d64566898fef001bf7c7543fdb640cbc69497521df8e521673a9d"), looks := false }, kinds := [], alts := [], laidByText := true, laidKinds := [.data], laidTests := true, laidLooks := .later }
def OrderCountsCardSaid : Prop := Claim7.holds Tryd.pinned (.plain (OpenSpec.ofChange orderCountsSpec)) orderCountsCard

/-- THE TIED CARD OF 'giornatalaw05.OrderFrees'. -/
def orderFreesCard : Claim7 := { stood := { row := orderFreesRow, standIns := [], harness := (true, "3802c3c3ef4d64566898fef001bf7c7543fdb640cbc69497521df8e521673a9d"), looks := false }, kinds := [], alts := [], laidByText := true, laidKinds := [.data], laidTests := true, laidLooks := .later }
def OrderFreesCardSaid : Prop := Claim7.holds Tryd.pinned (.plain (OpenSpec.ofChange orderFreesSpec)) orderFreesCard

/-- THE TIED CARD OF 'giornatalaw05.OrderLeasts'. -/
def orderLeastsCard : Claim7 := { stood := { row := orderLeastsRow, standIns := [], harness := (true, "3802c3c3ef4d64566898fef001bf7c7543fdb640cbc69497521df8e521673a9d"), looks := false }, kinds := [], alts := [], laidByText := true, laidKinds := [.data], laidTests := true, laidLooks := .later }
def OrderLeastsCardSaid : Prop := Claim7.holds Tryd.pinned (.plain (OpenSpec.ofChange orderLeastsSpec)) orderLeastsCard

/-- THE TIED CARD OF 'giornatalaw05.OrderDays'. -/
def orderDaysCard : Claim7 := { stood := { row := orderDaysRow, standIns := [], harness := (true, "3802c3c3ef4d64566898fef001bf7c7543fdb640cbc69497521df8e521673a9d"), looks := false }, kinds := [], alts := [], laidByText := true, laidKinds := [.data], laidTests := true, laidLooks := .later }
def OrderDaysCardSaid : Prop := Claim7.holds Tryd.pinned (.plain (OpenSpec.ofChange orderDaysSpec)) orderDaysCard

/-- THE TIED CARD OF 'giornatalaw05.OrderWaits'. -/
def orderWaitsCard : Claim7 := { stood := { row := orderWaitsRow, standIns := [], harness := (true, "3802c3c3ef4d64566898fef001bf7c7543fdb640cbc69497521df8e521673a9d"), looks := false }, kinds := [], alts := [], laidByText := true, laidKinds := [.data], laidTests := true, laidLooks := .later }
def OrderWaitsCardSaid : Prop := Claim7.holds Tryd.pinned (.plain (OpenSpec.ofChange orderWaitsSpec)) orderWaitsCard

/-- THE TIED CARD OF 'giornatalaw05.OrderEither'. -/
def orderEitherCard : Claim7 := { stood := { row := orderEitherRow, standIns := [], harness := (true, "3802c3c3ef4d64566898fef001bf7c7543fdb640cbc69497521df8e521673a9d"), looks := false }, kinds := [], alts := [], laidByText := true, laidKinds := [.data], laidTests := true, laidLooks := .later }
def OrderEitherCardSaid : Prop := Claim7.holds Tryd.pinned (.plain (OpenSpec.ofChange orderEitherSpec)) orderEitherCard

/-- THE TIED CARD OF 'giornatalaw05.OrderStands'. -/
def orderStandsCard : Claim7 := { stood := { row := orderStandsRow, standIns := [], harness := (true, "3802c3c3ef4d64566898fef001bf7c7543fdb640cbc69497521df8e521673a9d"), looks := false }, kinds := [], alts := [], laidByText := true, laidKinds := [.data], laidTests := true, laidLooks := .later }
def OrderStandsCardSaid : Prop := Claim7.holds Tryd.pinned (.plain (OpenSpec.ofChange orderStandsSpec)) orderStandsCard

/-- THE TIED CARD OF 'giornatalaw05.OrderPlaces'. -/
def orderPlacesCard : Claim7 := { stood := { row := orderPlacesRow, standIns := [], harness := (true, "3802c3c3ef4d64566898fef001bf7c7543fdb640cbc69497521df8e521673a9d"), looks := false }, kinds := [], alts := [], laidByText := true, laidKinds := [.data], laidTests := true, laidLooks := .later }
def OrderPlacesCardSaid : Prop := Claim7.holds Tryd.pinned (.plain (OpenSpec.ofChange orderPlacesSpec)) orderPlacesCard

/-- THE TIED CARD OF 'giornatalaw05.OrderMends'. -/
def orderMendsCard : Claim7 := { stood := { row := orderMendsRow, standIns := [], harness := (true, "3802c3c3ef4d64566898fef001bf7c7543fdb640cbc69497521df8e521673a9d"), looks := false }, kinds := [], alts := [], laidByText := true, laidKinds := [.data], laidTests := true, laidLooks := .later }
def OrderMendsCardSaid : Prop := Claim7.holds Tryd.pinned (.plain (OpenSpec.ofChange orderMendsSpec)) orderMendsCard

/-- THE TIED CARD OF 'giornatalaw05.OrderEarliest'. -/
def orderEarliestCard : Claim7 := { stood := { row := orderEarliestRow, standIns := [], harness := (true, "3802c3c3ef4d64566898fef001bf7c7543fdb640cbc69497521df8e521673a9d"), looks := false }, kinds := [], alts := [], laidByText := true, laidKinds := [.data], laidTests := true, laidLooks := .later }
def OrderEarliestCardSaid : Prop := Claim7.holds Tryd.pinned (.plain (OpenSpec.ofChange orderEarliestSpec)) orderEarliestCard

/-- THE TIED CARD OF 'giornatalaw05.OrderReasons'. -/
def orderReasonsCard : Claim7 := { stood := { row := orderReasonsRow, standIns := [], harness := (true, "3802c3c3ef4d64566898fef001bf7c7543fdb640cbc69497521df8e521673a9d"), looks := false }, kinds := [], alts := [], laidByText := true, laidKinds := [.data], laidTests := true, laidLooks := .later }
def OrderReasonsCardSaid : Prop := Claim7.holds Tryd.pinned (.plain (OpenSpec.ofChange orderReasonsSpec)) orderReasonsCard

/-- THE TIED CARD OF 'giornatalaw05.OrderMore'. -/
def orderMoreCard : Claim7 := { stood := { row := orderMoreRow, standIns := [], harness := (true, "3802c3c3ef4d64566898fef001bf7c7543fdb640cbc69497521df8e521673a9d"), looks := false }, kinds := [], alts := [], laidByText := true, laidKinds := [.data], laidTests := true, laidLooks := .later }
def OrderMoreCardSaid : Prop := Claim7.holds Tryd.pinned (.plain (OpenSpec.ofChange orderMoreSpec)) orderMoreCard

/-- THE TIED CARD OF 'giornatalaw05.OrderMemory'. -/
def orderMemoryCard : Claim7 := { stood := { row := orderMemoryRow, standIns := [], harness := (true, "3802c3c3ef4d64566898fef001bf7c7543fdb640cbc69497521df8e521673a9d"), looks := false }, kinds := [], alts := [], laidByText := true, laidKinds := [.data], laidTests := true, laidLooks := .later }
def OrderMemoryCardSaid : Prop := Claim7.holds Tryd.pinned (.plain (OpenSpec.ofChange orderMemorySpec)) orderMemoryCard

/-- THE SECOND FORM's CARD OF 'giornatalaw05.OrderChecks'. -/
def orderChecksUptoCard : Claim7 := { stood := { row := orderChecksUptoRow, standIns := [], harness := (true, "3802c3c3ef4d64566898fef001bf7c7543fdb640cbc69497521df8e521673a9d"), looks := false }, kinds := [], alts := [], laidByText := true, laidKinds := [.data], laidTests := true, laidLooks := .later }
def OrderChecksUptoCardSaid : Prop := Claim7.holds Tryd.pinned (.plain (OpenSpec.upto orderChecksSpec)) orderChecksUptoCard

/-- THE SECOND FORM's CARD OF 'giornatalaw05.OrderCircles'. -/
def orderCirclesUptoCard : Claim7 := { stood := { row := orderCirclesUptoRow, standIns := [], harness := (true, "3802c3c3ef4d64566898fef001bf7c7543fdb640cbc69497521df8e521673a9d"), looks := false }, kinds := [], alts := [], laidByText := true, laidKinds := [.data], laidTests := true, laidLooks := .later }
def OrderCirclesUptoCardSaid : Prop := Claim7.holds Tryd.pinned (.plain (OpenSpec.upto orderCirclesSpec)) orderCirclesUptoCard

/-- THE SECOND FORM's CARD OF 'giornatalaw05.OrderFirsts'. -/
def orderFirstsUptoCard : Claim7 := { stood := { row := orderFirstsUptoRow, standIns := [], harness := (true, "3802c3c3ef4d64566898fef001bf7c7543fdb640cbc69497521df8e521673a9d"), looks := false }, kinds := [], alts := [], laidByText := true, laidKinds := [.data], laidTests := true, laidLooks := .later }
def OrderFirstsUptoCardSaid : Prop := Claim7.holds Tryd.pinned (.plain (OpenSpec.upto orderFirstsSpec)) orderFirstsUptoCard

/-- THE SECOND FORM's CARD OF 'giornatalaw05.OrderCloses'. -/
def orderClosesUptoCard : Claim7 := { stood := { row := orderClosesUptoRow, standIns := [], harness := (true, "3802c3c3ef4d64566898fef001bf7c7543fdb640cbc69497521df8e521673a9d"), looks := false }, kinds := [], alts := [], laidByText := true, laidKinds := [.data], laidTests := true, laidLooks := .later }
def OrderClosesUptoCardSaid : Prop := Claim7.holds Tryd.pinned (.plain (OpenSpec.upto orderClosesSpec)) orderClosesUptoCard

/-- THE SECOND FORM's CARD OF 'giornatalaw05.OrderCounts'. -/
def orderCountsUptoCard : Claim7 := { stood := { row := orderCountsUptoRow, standIns := [], harness := (true, "3802c3c3ef4d64566898fef001bf7c7543fdb640cbc69497521df8e521673a9d"), looks := false }, kinds := [], alts := [], laidByText := true, laidKinds := [.data], laidTests := true, laidLooks := .later }
def OrderCountsUptoCardSaid : Prop := Claim7.holds Tryd.pinned (.plain (OpenSpec.upto orderCountsSpec)) orderCountsUptoCard

/-- THE SECOND FORM's CARD OF 'giornatalaw05.OrderFrees'. -/
def orderFreesUptoCard : Claim7 := { stood := { row := orderFreesUptoRow, standIns := [], harness := (true, "3802c3c3ef4d64566898fef001bf7c7543fdb640cbc69497521df8e521673a9d"), looks := false }, kinds := [], alts := [], laidByText := true, laidKinds := [.data], laidTests := true, laidLooks := .later }
def OrderFreesUptoCardSaid : Prop := Claim7.holds Tryd.pinned (.plain (OpenSpec.upto orderFreesSpec)) orderFreesUptoCard

/-- THE SECOND FORM's CARD OF 'giornatalaw05.OrderLeasts'. -/
def orderLeastsUptoCard : Claim7 := { stood := { row := orderLeastsUptoRow, standIns := [], harness := (true, "3802c3c3ef4d64566898fef001bf7c7543fdb640cbc69497521df8e521673a9d"), looks := false }, kinds := [], alts := [], laidByText := true, laidKinds := [.data], laidTests := true, laidLooks := .later }
def OrderLeastsUptoCardSaid : Prop := Claim7.holds Tryd.pinned (.plain (OpenSpec.upto orderLeastsSpec)) orderLeastsUptoCard

/-- THE SECOND FORM's CARD OF 'giornatalaw05.OrderDays'. -/
def orderDaysUptoCard : Claim7 := { stood := { row := orderDaysUptoRow, standIns := [], harness := (true, "3802c3c3ef4d64566898fef001bf7c7543fdb640cbc69497521df8e521673a9d"), looks := false }, kinds := [], alts := [], laidByText := true, laidKinds := [.data], laidTests := true, laidLooks := .later }
def OrderDaysUptoCardSaid : Prop := Claim7.holds Tryd.pinned (.plain (OpenSpec.upto orderDaysSpec)) orderDaysUptoCard

/-- THE SECOND FORM's CARD OF 'giornatalaw05.OrderWaits'. -/
def orderWaitsUptoCard : Claim7 := { stood := { row := orderWaitsUptoRow, standIns := [], harness := (true, "3802c3c3ef4d64566898fef001bf7c7543fdb640cbc69497521df8e521673a9d"), looks := false }, kinds := [], alts := [], laidByText := true, laidKinds := [.data], laidTests := true, laidLooks := .later }
def OrderWaitsUptoCardSaid : Prop := Claim7.holds Tryd.pinned (.plain (OpenSpec.upto orderWaitsSpec)) orderWaitsUptoCard

/-- THE SECOND FORM's CARD OF 'giornatalaw05.OrderEither'. -/
def orderEitherUptoCard : Claim7 := { stood := { row := orderEitherUptoRow, standIns := [], harness := (true, "3802c3c3ef4d64566898fef001bf7c7543fdb640cbc69497521df8e521673a9d"), looks := false }, kinds := [], alts := [], laidByText := true, laidKinds := [.data], laidTests := true, laidLooks := .later }
def OrderEitherUptoCardSaid : Prop := Claim7.holds Tryd.pinned (.plain (OpenSpec.upto orderEitherSpec)) orderEitherUptoCard

/-- THE SECOND FORM's CARD OF 'giornatalaw05.OrderStands'. -/
def orderStandsUptoCard : Claim7 := { stood := { row := orderStandsUptoRow, standIns := [], harness := (true, "3802c3c3ef4d64566898fef001bf7c7543fdb640cbc69497521df8e521673a9d"), looks := false }, kinds := [], alts := [], laidByText := true, laidKinds := [.data], laidTests := true, laidLooks := .later }
def OrderStandsUptoCardSaid : Prop := Claim7.holds Tryd.pinned (.plain (OpenSpec.upto orderStandsSpec)) orderStandsUptoCard

/-- THE SECOND FORM's CARD OF 'giornatalaw05.OrderPlaces'. -/
def orderPlacesUptoCard : Claim7 := { stood := { row := orderPlacesUptoRow, standIns := [], harness := (true, "3802c3c3ef4d64566898fef001bf7c7543fdb640cbc69497521df8e521673a9d"), looks := false }, kinds := [], alts := [], laidByText := true, laidKinds := [.data], laidTests := true, laidLooks := .later }
def OrderPlacesUptoCardSaid : Prop := Claim7.holds Tryd.pinned (.plain (OpenSpec.upto orderPlacesSpec)) orderPlacesUptoCard

/-- THE SECOND FORM's CARD OF 'giornatalaw05.OrderMends'. -/
def orderMendsUptoCard : Claim7 := { stood := { row := orderMendsUptoRow, standIns := [], harness := (true, "3802c3c3ef4d64566898fef001bf7c7543fdb640cbc69497521df8e521673a9d"), looks := false }, kinds := [], alts := [], laidByText := true, laidKinds := [.data], laidTests := true, laidLooks := .later }
def OrderMendsUptoCardSaid : Prop := Claim7.holds Tryd.pinned (.plain (OpenSpec.upto orderMendsSpec)) orderMendsUptoCard

/-- THE SECOND FORM's CARD OF 'giornatalaw05.OrderEarliest'. -/
def orderEarliestUptoCard : Claim7 := { stood := { row := orderEarliestUptoRow, standIns := [], harness := (true, "3802c3c3ef4d64566898fef001bf7c7543fdb640cbc69497521df8e521673a9d"), looks := false }, kinds := [], alts := [], laidByText := true, laidKinds := [.data], laidTests := true, laidLooks := .later }
def OrderEarliestUptoCardSaid : Prop := Claim7.holds Tryd.pinned (.plain (OpenSpec.upto orderEarliestSpec)) orderEarliestUptoCard

/-- THE SECOND FORM's CARD OF 'giornatalaw05.OrderReasons'. -/
def orderReasonsUptoCard : Claim7 := { stood := { row := orderReasonsUptoRow, standIns := [], harness := (true, "3802c3c3ef4d64566898fef001bf7c7543fdb640cbc69497521df8e521673a9d"), looks := false }, kinds := [], alts := [], laidByText := true, laidKinds := [.data], laidTests := true, laidLooks := .later }
def OrderReasonsUptoCardSaid : Prop := Claim7.holds Tryd.pinned (.plain (OpenSpec.upto orderReasonsSpec)) orderReasonsUptoCard

/-- THE SECOND FORM's CARD OF 'giornatalaw05.OrderMore'. -/
def orderMoreUptoCard : Claim7 := { stood := { row := orderMoreUptoRow, standIns := [], harness := (true, "3802c3c3ef4d64566898fef001bf7c7543fdb640cbc69497521df8e521673a9d"), looks := false }, kinds := [], alts := [], laidByText := true, laidKinds := [.data], laidTests := true, laidLooks := .later }
def OrderMoreUptoCardSaid : Prop := Claim7.holds Tryd.pinned (.plain (OpenSpec.upto orderMoreSpec)) orderMoreUptoCard

/-- THE SECOND FORM's CARD OF 'giornatalaw05.OrderMemory'. -/
def orderMemoryUptoCard : Claim7 := { stood := { row := orderMemoryUptoRow, standIns := [], harness := (true, "3802c3c3ef4d64566898fef001bf7c7543fdb640cbc69497521df8e521673a9d"), looks := false }, kinds := [], alts := [], laidByText := true, laidKinds := [.data], laidTests := true, laidLooks := .later }
def OrderMemoryUptoCardSaid : Prop := Claim7.holds Tryd.pinned (.plain (OpenSpec.upto orderMemorySpec)) orderMemoryUptoCard
end Rows
end Go.Proofs.YtiejefehcpfkaaaDoor
