/-
  DERIVED. GIVEN WITH THE SEED: THE CARDS: each row of YtdhcdgfpkjdihaaDoorRows.lean that lists a variable, with what it lists TIED to the program's text (the seventh form; the later family's looks); each row that meets fmt, with fmt's text TOLD by the authors' own Lean function (tested against real Go, not proved from fmt's source: count such statements apart). THE CARD IS WHAT COUNTS. Prove the row's statement (the work); the ties are given (YtdhcdgfpkjdihaaDoorTie.lean); close each card by the builder's one call (the guide's Derived/Test/ToyasCard.lean, 'card_holds'). Laid BY PROGRAM, IN A SANDBOX (cutbox-door.mjs). By AI agents, Wed Nov 11 2026. No macro, syntax, notation, axiom, sorry.
-/
import Derived.Test.YtdhcdgfpkjdihaaDoorRows
import GoSem.ClaimSeven
namespace Go.Proofs.YtdhcdgfpkjdihaaDoor
namespace Rows

/-- THE TIED CARD OF 'tidewalllaw03.SurgeFetches'. -/
def surgeFetchesCard : Claim7 := { stood := { row := surgeFetchesRow, standIns := [], harness := (true, "4877ce54cd9656a9e170aefe753c915f5791c432cd5c9dd9538c03066516e63c"), looks := false }, kinds := [], alts := [], laidByText := true, laidKinds := [.data], laidTests := true, laidLooks := .later }
def SurgeFetchesCardSaid : Prop := Claim7.holds Tryd.pinned (.plain (OpenSpec.ofChange surgeFetchesSpec)) surgeFetchesCard

/-- THE TIED CARD OF 'tidewalllaw03.SurgeSetups'. -/
def surgeSetupsCard : Claim7 := { stood := { row := surgeSetupsRow, standIns := [], harness := (true, "4877ce54cd9656a9e170aefe753c915f5791c432cd5c9dd9538c03066516e63c"), looks := false }, kinds := [], alts := [], laidByText := true, laidKinds := [.data], laidTests := true, laidLooks := .later }
def SurgeSetupsCardSaid : Prop := Claim7.holds Tryd.pinned (.plain (OpenSpec.ofChange surgeSetupsSpec)) surgeSetupsCard

/-- THE TIED CARD OF 'tidewalllaw03.SurgeRuns'. -/
def surgeRunsCard : Claim7 := { stood := { row := surgeRunsRow, standIns := [], harness := (true, "4877ce54cd9656a9e170aefe753c915f5791c432cd5c9dd9538c03066516e63c"), looks := false }, kinds := [], alts := [], laidByText := true, laidKinds := [.data], laidTests := true, laidLooks := .later }
def SurgeRunsCardSaid : Prop := Claim7.holds Tryd.pinned (.plain (OpenSpec.ofChange surgeRunsSpec)) surgeRunsCard

/-- THE TIED CARD OF 'tidewalllaw03.SurgeFields'. -/
def surgeFieldsCard : Claim7 := { stood := { row := surgeFieldsRow, standIns := [], harness := (true, "4877ce54cd9656a9e170aefe753c915f5791c432cd5c9dd9538c03066516e63c"), looks := false }, kinds := [], alts := [], laidByText := true, laidKinds := [.data], laidTests := true, laidLooks := .later }
def SurgeFieldsCardSaid : Prop := Claim7.holds Tryd.pinned (.plain (OpenSpec.ofChange surgeFieldsSpec)) surgeFieldsCard

/-- THE TIED CARD OF 'tidewalllaw03.SurgeExceeds'. -/
def surgeExceedsCard : Claim7 := { stood := { row := surgeExceedsRow, standIns := [], harness := (true, "4877ce54cd9656a9e170aefe753c915f5791c432cd5c9dd9538c03066516e63c"), looks := false }, kinds := [], alts := [], laidByText := true, laidKinds := [.data], laidTests := true, laidLooks := .later }
def SurgeExceedsCardSaid : Prop := Claim7.holds Tryd.pinned (.plain (OpenSpec.ofChange surgeExceedsSpec)) surgeExceedsCard

/-- THE TIED CARD OF 'tidewalllaw03.SurgeStorms'. -/
def surgeStormsCard : Claim7 := { stood := { row := surgeStormsRow, standIns := [], harness := (true, "4877ce54cd9656a9e170aefe753c915f5791c432cd5c9dd9538c03066516e63c"), looks := false }, kinds := [], alts := [], laidByText := true, laidKinds := [.data], laidTests := true, laidLooks := .later }
def SurgeStormsCardSaid : Prop := Claim7.holds Tryd.pinned (.plain (OpenSpec.ofChange surgeStormsSpec)) surgeStormsCard

/-- THE TIED CARD OF 'tidewalllaw03.SurgeInside'. -/
def surgeInsideCard : Claim7 := { stood := { row := surgeInsideRow, standIns := [], harness := (true, "4877ce54cd9656a9e170aefe753c915f5791c432cd5c9dd9538c03066516e63c"), looks := false }, kinds := [], alts := [], laidByText := true, laidKinds := [.data], laidTests := true, laidLooks := .later }
def SurgeInsideCardSaid : Prop := Claim7.holds Tryd.pinned (.plain (OpenSpec.ofChange surgeInsideSpec)) surgeInsideCard

/-- THE TIED CARD OF 'tidewalllaw03.SurgePoints'. -/
def surgePointsCard : Claim7 := { stood := { row := surgePointsRow, standIns := [], harness := (true, "4877ce54cd9656a9e170aefe753c915f5791c432cd5c9dd9538c03066516e63c"), looks := false }, kinds := [], alts := [], laidByText := true, laidKinds := [.data], laidTests := true, laidLooks := .later }
def SurgePointsCardSaid : Prop := Claim7.holds Tryd.pinned (.plain (OpenSpec.ofChange surgePointsSpec)) surgePointsCard

/-- THE TIED CARD OF 'tidewalllaw03.SurgeSteps'. -/
def surgeStepsCard : Claim7 := { stood := { row := surgeStepsRow, standIns := [], harness := (true, "4877ce54cd9656a9e170aefe753c915f5791c432cd5c9dd9538c03066516e63c"), looks := false }, kinds := [], alts := [], laidByText := true, laidKinds := [.data], laidTests := true, laidLooks := .later }
def SurgeStepsCardSaid : Prop := Claim7.holds Tryd.pinned (.plain (OpenSpec.ofChange surgeStepsSpec)) surgeStepsCard

/-- THE TIED CARD OF 'tidewalllaw03.SurgeEye'. -/
def surgeEyeCard : Claim7 := { stood := { row := surgeEyeRow, standIns := [], harness := (true, "4877ce54cd9656a9e170aefe753c915f5791c432cd5c9dd9538c03066516e63c"), looks := false }, kinds := [], alts := [], laidByText := true, laidKinds := [.data], laidTests := true, laidLooks := .later }
def SurgeEyeCardSaid : Prop := Claim7.holds Tryd.pinned (.plain (OpenSpec.ofChange surgeEyeSpec)) surgeEyeCard

/-- THE TIED CARD OF 'tidewalllaw03.SurgeTurns'. -/
def surgeTurnsCard : Claim7 := { stood := { row := surgeTurnsRow, standIns := [], harness := (true, "4877ce54cd9656a9e170aefe753c915f5791c432cd5c9dd9538c03066516e63c"), looks := false }, kinds := [], alts := [], laidByText := true, laidKinds := [.data], laidTests := true, laidLooks := .later }
def SurgeTurnsCardSaid : Prop := Claim7.holds Tryd.pinned (.plain (OpenSpec.ofChange surgeTurnsSpec)) surgeTurnsCard

/-- THE TIED CARD OF 'tidewalllaw03.SurgeKnown'. -/
def surgeKnownCard : Claim7 := { stood := { row := surgeKnownRow, standIns := [], harness := (true, "4877ce54cd9656a9e170aefe753c915f5791c432cd5c9dd9538c03066516e63c"), looks := false }, kinds := [], alts := [], laidByText := true, laidKinds := [.data], laidTests := true, laidLooks := .later }
def SurgeKnownCardSaid : Prop := Claim7.holds Tryd.pinned (.plain (OpenSpec.ofChange surgeKnownSpec)) surgeKnownCard

/-- THE SECOND FORM's CARD OF 'tidewalllaw03.SurgeFetches'. -/
def surgeFetchesUptoCard : Claim7 := { stood := { row := surgeFetchesUptoRow, standIns := [], harness := (true, "4877ce54cd9656a9e170aefe753c915f5791c432cd5c9dd9538c03066516e63c"), looks := false }, kinds := [], alts := [], laidByText := true, laidKinds := [.data], laidTests := true, laidLooks := .later }
def SurgeFetchesUptoCardSaid : Prop := Claim7.holds Tryd.pinned (.plain (OpenSpec.upto surgeFetchesSpec)) surgeFetchesUptoCard

/-- THE SECOND FORM's CARD OF 'tidewalllaw03.SurgeSetups'. -/
def surgeSetupsUptoCard : Claim7 := { stood := { row := surgeSetupsUptoRow, standIns := [], harness := (true, "4877ce54cd9656a9e170aefe753c915f5791c432cd5c9dd9538c03066516e63c"), looks := false }, kinds := [], alts := [], laidByText := true, laidKinds := [.data], laidTests := true, laidLooks := .later }
def SurgeSetupsUptoCardSaid : Prop := Claim7.holds Tryd.pinned (.plain (OpenSpec.upto surgeSetupsSpec)) surgeSetupsUptoCard

/-- THE SECOND FORM's CARD OF 'tidewalllaw03.SurgeRuns'. -/
def surgeRunsUptoCard : Claim7 := { stood := { row := surgeRunsUptoRow, standIns := [], harness := (true, "4877ce54cd9656a9e170aefe753c915f5791c432cd5c9dd9538c03066516e63c"), looks := false }, kinds := [], alts := [], laidByText := true, laidKinds := [.data], laidTests := true, laidLooks := .later }
def SurgeRunsUptoCardSaid : Prop := Claim7.holds Tryd.pinned (.plain (OpenSpec.upto surgeRunsSpec)) surgeRunsUptoCard

/-- THE SECOND FORM's CARD OF 'tidewalllaw03.SurgeFields'. -/
def surgeFieldsUptoCard : Claim7 := { stood := { row := surgeFieldsUptoRow, standIns := [], harness := (true, "4877ce54cd9656a9e170aefe753c915f5791c432cd5c9dd9538c03066516e63c"), looks := false }, kinds := [], alts := [], laidByText := true, laidKinds := [.data], laidTests := true, laidLooks := .later }
def SurgeFieldsUptoCardSaid : Prop := Claim7.holds Tryd.pinned (.plain (OpenSpec.upto surgeFieldsSpec)) surgeFieldsUptoCard

/-- THE SECOND FORM's CARD OF 'tidewalllaw03.SurgeExceeds'. -/
def surgeExceedsUptoCard : Claim7 := { stood := { row := surgeExceedsUptoRow, standIns := [], harness := (true, "4877ce54cd9656a9e170aefe753c915f5791c432cd5c9dd9538c03066516e63c"), looks := false }, kinds := [], alts := [], laidByText := true, laidKinds := [.data], laidTests := true, laidLooks := .later }
def SurgeExceedsUptoCardSaid : Prop := Claim7.holds Tryd.pinned (.plain (OpenSpec.upto surgeExceedsSpec)) surgeExceedsUptoCard

/-- THE SECOND FORM's CARD OF 'tidewalllaw03.SurgeStorms'. -/
def surgeStormsUptoCard : Claim7 := { stood := { row := surgeStormsUptoRow, standIns := [], harness := (true, "4877ce54cd9656a9e170aefe753c915f5791c432cd5c9dd9538c03066516e63c"), looks := false }, kinds := [], alts := [], laidByText := true, laidKinds := [.data], laidTests := true, laidLooks := .later }
def SurgeStormsUptoCardSaid : Prop := Claim7.holds Tryd.pinned (.plain (OpenSpec.upto surgeStormsSpec)) surgeStormsUptoCard

/-- THE SECOND FORM's CARD OF 'tidewalllaw03.SurgeInside'. -/
def surgeInsideUptoCard : Claim7 := { stood := { row := surgeInsideUptoRow, standIns := [], harness := (true, "4877ce54cd9656a9e170aefe753c915f5791c432cd5c9dd9538c03066516e63c"), looks := false }, kinds := [], alts := [], laidByText := true, laidKinds := [.data], laidTests := true, laidLooks := .later }
def SurgeInsideUptoCardSaid : Prop := Claim7.holds Tryd.pinned (.plain (OpenSpec.upto surgeInsideSpec)) surgeInsideUptoCard

/-- THE SECOND FORM's CARD OF 'tidewalllaw03.SurgePoints'. -/
def surgePointsUptoCard : Claim7 := { stood := { row := surgePointsUptoRow, standIns := [], harness := (true, "4877ce54cd9656a9e170aefe753c915f5791c432cd5c9dd9538c03066516e63c"), looks := false }, kinds := [], alts := [], laidByText := true, laidKinds := [.data], laidTests := true, laidLooks := .later }
def SurgePointsUptoCardSaid : Prop := Claim7.holds Tryd.pinned (.plain (OpenSpec.upto surgePointsSpec)) surgePointsUptoCard

/-- THE SECOND FORM's CARD OF 'tidewalllaw03.SurgeSteps'. -/
def surgeStepsUptoCard : Claim7 := { stood := { row := surgeStepsUptoRow, standIns := [], harness := (true, "4877ce54cd9656a9e170aefe753c915f5791c432cd5c9dd9538c03066516e63c"), looks := false }, kinds := [], alts := [], laidByText := true, laidKinds := [.data], laidTests := true, laidLooks := .later }
def SurgeStepsUptoCardSaid : Prop := Claim7.holds Tryd.pinned (.plain (OpenSpec.upto surgeStepsSpec)) surgeStepsUptoCard

/-- THE SECOND FORM's CARD OF 'tidewalllaw03.SurgeEye'. -/
def surgeEyeUptoCard : Claim7 := { stood := { row := surgeEyeUptoRow, standIns := [], harness := (true, "4877ce54cd9656a9e170aefe753c915f5791c432cd5c9dd9538c03066516e63c"), looks := false }, kinds := [], alts := [], laidByText := true, laidKinds := [.data], laidTests := true, laidLooks := .later }
def SurgeEyeUptoCardSaid : Prop := Claim7.holds Tryd.pinned (.plain (OpenSpec.upto surgeEyeSpec)) surgeEyeUptoCard

/-- THE SECOND FORM's CARD OF 'tidewalllaw03.SurgeTurns'. -/
def surgeTurnsUptoCard : Claim7 := { stood := { row := surgeTurnsUptoRow, standIns := [], harness := (true, "4877ce54cd9656a9e170aefe753c915f5791c432cd5c9dd9538c03066516e63c"), looks := false }, kinds := [], alts := [], laidByText := true, laidKinds := [.data], laidTests := true, laidLooks := .later }
def SurgeTurnsUptoCardSaid : Prop := Claim7.holds Tryd.pinned (.plain (OpenSpec.upto surgeTurnsSpec)) surgeTurnsUptoCard

/-- THE SECOND FORM's CARD OF 'tidewalllaw03.SurgeKnown'. -/
def surgeKnownUptoCard : Claim7 := { stood := { row := surgeKnownUptoRow, standIns := [], harness := (true, "4877ce54cd9656a9e170aefe753c915f5791c432cd5c9dd9538c03066516e63c"), looks := false }, kinds := [], alts := [], laidByText := true, laidKinds := [.data], laidTests := true, laidLooks := .later }
def SurgeKnownUptoCardSaid : Prop := Claim7.holds Tryd.pinned (.plain (OpenSpec.upto surgeKnownSpec)) surgeKnownUptoCard
end Rows
end Go.Proofs.YtdhcdgfpkjdihaaDoor
