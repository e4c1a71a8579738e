/-
  DERIVED. GIVEN WITH THE SEED: THE CARDS: each row of YtmjifmlibgpjiaaGreatDoorRows.lean that lists a variable, with what it lists TIED to the program's text (the seventh form; the later family's looks); each row that meets fmt, with fmt's text TOLD by the authors' own Lean function (tested against real Go, not proved from fmt's source: count such statements apart). THE CARD IS WHAT COUNTS. Prove the row's statement (the work); the ties are given (YtmjifmlibgpjiaaGreatDoorTie.lean); close each card by the builder's one call (the guide's Derived/Test/ToyasCard.lean, 'card_holds'). Laid BY PROGRAM, IN A SANDBOX (cutbox-door.mjs). By AI agents, Wed Nov 11 2026. No macro, syntax, notation, axiom, sorry.
-/
import Derived.Test.YtmjifmlibgpjiaaGreatDoorRows
import GoSem.ClaimSeven
namespace Go.Proofs.YtmjifmlibgpjiaaGreatDoor
namespace Rows

/-- THE TIED CARD OF 'qanatlaw04.CalDates'. -/
def calDatesCard : Claim7 := { stood := { row := calDatesRow, standIns := [], harness := (true, "7f5c90542c4f5b3dec2728c33b1455d27b1057e01edd59f0fc66c6d5e69edbfa"), looks := true }, kinds := [], alts := [], laidByText := true, laidKinds := [.data, .data, .data, .data, .sentinel, .sentinel, .listed, .data, .pinned], laidTests := true, laidLooks := .later }
def CalDatesCardSaid : Prop := Claim7.holds Tryz.pinned (.plain (OpenSpec.ofChange calDatesSpec)) calDatesCard

/-- THE TIED CARD OF 'qanatlaw04.CalWeeks'. -/
def calWeeksCard : Claim7 := { stood := { row := calWeeksRow, standIns := [], harness := (true, "7f5c90542c4f5b3dec2728c33b1455d27b1057e01edd59f0fc66c6d5e69edbfa"), looks := true }, kinds := [], alts := [], laidByText := true, laidKinds := [.data, .data, .data, .data, .sentinel, .sentinel, .listed, .data, .pinned], laidTests := true, laidLooks := .later }
def CalWeeksCardSaid : Prop := Claim7.holds Tryz.pinned (.plain (OpenSpec.ofChange calWeeksSpec)) calWeeksCard

/-- THE TIED CARD OF 'qanatlaw04.CalFormats'. -/
def calFormatsCard : Claim7 := { stood := { row := calFormatsRow, standIns := [], harness := (true, "7f5c90542c4f5b3dec2728c33b1455d27b1057e01edd59f0fc66c6d5e69edbfa"), looks := true }, kinds := [], alts := [], laidByText := true, laidKinds := [.data, .data, .data, .data, .sentinel, .sentinel, .listed, .data, .pinned], laidTests := true, laidLooks := .later }
def CalFormatsCardSaid : Prop := Claim7.holds Tryz.pinned (.plain (OpenSpec.ofChange calFormatsSpec)) calFormatsCard

/-- THE TIED CARD OF 'qanatlaw04.CalTimes'. -/
def calTimesCard : Claim7 := { stood := { row := calTimesRow, standIns := [], harness := (true, "7f5c90542c4f5b3dec2728c33b1455d27b1057e01edd59f0fc66c6d5e69edbfa"), looks := true }, kinds := [], alts := [], laidByText := true, laidKinds := [.data, .data, .data, .data, .sentinel, .sentinel, .listed, .data, .pinned], laidTests := true, laidLooks := .later }
def CalTimesCardSaid : Prop := Claim7.holds Tryz.pinned (.plain (OpenSpec.ofChange calTimesSpec)) calTimesCard

/-- THE TIED CARD OF 'qanatlaw04.CalMoments'. -/
def calMomentsCard : Claim7 := { stood := { row := calMomentsRow, standIns := [], harness := (true, "7f5c90542c4f5b3dec2728c33b1455d27b1057e01edd59f0fc66c6d5e69edbfa"), looks := true }, kinds := [], alts := [], laidByText := true, laidKinds := [.data, .data, .data, .data, .sentinel, .sentinel, .listed, .data, .pinned], laidTests := true, laidLooks := .later }
def CalMomentsCardSaid : Prop := Claim7.holds Tryz.pinned (.plain (OpenSpec.ofChange calMomentsSpec)) calMomentsCard

/-- THE TIED CARD OF 'qanatlaw04.CalBijection'. -/
def calBijectionCard : Claim7 := { stood := { row := calBijectionRow, standIns := [], harness := (true, "7f5c90542c4f5b3dec2728c33b1455d27b1057e01edd59f0fc66c6d5e69edbfa"), looks := true }, kinds := [], alts := [], laidByText := true, laidKinds := [.data, .data, .data, .data, .sentinel, .sentinel, .listed, .data, .pinned], laidTests := true, laidLooks := .later }
def CalBijectionCardSaid : Prop := Claim7.holds Tryz.pinned (.plain (OpenSpec.ofChange calBijectionSpec)) calBijectionCard

/-- THE TIED CARD OF 'qanatlaw04.CalWeekly'. -/
def calWeeklyCard : Claim7 := { stood := { row := calWeeklyRow, standIns := [], harness := (true, "7f5c90542c4f5b3dec2728c33b1455d27b1057e01edd59f0fc66c6d5e69edbfa"), looks := true }, kinds := [], alts := [], laidByText := true, laidKinds := [.data, .data, .data, .data, .sentinel, .sentinel, .listed, .data, .pinned], laidTests := true, laidLooks := .later }
def CalWeeklyCardSaid : Prop := Claim7.holds Tryz.pinned (.plain (OpenSpec.ofChange calWeeklySpec)) calWeeklyCard

/-- THE TIED CARD OF 'qanatlaw04.CalReadsBack'. -/
def calReadsBackCard : Claim7 := { stood := { row := calReadsBackRow, standIns := [], harness := (true, "7f5c90542c4f5b3dec2728c33b1455d27b1057e01edd59f0fc66c6d5e69edbfa"), looks := true }, kinds := [], alts := [], laidByText := true, laidKinds := [.data, .data, .data, .data, .sentinel, .sentinel, .listed, .data, .pinned], laidTests := true, laidLooks := .later }
def CalReadsBackCardSaid : Prop := Claim7.holds Tryz.pinned (.plain (OpenSpec.ofChange calReadsBackSpec)) calReadsBackCard

/-- THE TIED CARD OF 'qanatlaw04.CalTimesBack'. -/
def calTimesBackCard : Claim7 := { stood := { row := calTimesBackRow, standIns := [], harness := (true, "7f5c90542c4f5b3dec2728c33b1455d27b1057e01edd59f0fc66c6d5e69edbfa"), looks := true }, kinds := [], alts := [], laidByText := true, laidKinds := [.data, .data, .data, .data, .sentinel, .sentinel, .listed, .data, .pinned], laidTests := true, laidLooks := .later }
def CalTimesBackCardSaid : Prop := Claim7.holds Tryz.pinned (.plain (OpenSpec.ofChange calTimesBackSpec)) calTimesBackCard

/-- THE TIED CARD OF 'qanatlaw04.CalDurations'. -/
def calDurationsCard : Claim7 := { stood := { row := calDurationsRow, standIns := [], harness := (true, "7f5c90542c4f5b3dec2728c33b1455d27b1057e01edd59f0fc66c6d5e69edbfa"), looks := true }, kinds := [], alts := [], laidByText := true, laidKinds := [.data, .data, .data, .data, .sentinel, .sentinel, .listed, .data, .pinned], laidTests := true, laidLooks := .later }
def CalDurationsCardSaid : Prop := Claim7.holds Tryz.pinned (.plain (OpenSpec.ofChange calDurationsSpec)) calDurationsCard

/-- THE SECOND FORM's CARD OF 'qanatlaw04.CalDates'. -/
def calDatesUptoCard : Claim7 := { stood := { row := calDatesUptoRow, standIns := [], harness := (true, "7f5c90542c4f5b3dec2728c33b1455d27b1057e01edd59f0fc66c6d5e69edbfa"), looks := true }, kinds := [], alts := [], laidByText := true, laidKinds := [.data, .data, .data, .data, .sentinel, .sentinel, .listed, .data, .pinned], laidTests := true, laidLooks := .later }
def CalDatesUptoCardSaid : Prop := Claim7.holds Tryz.pinned (.plain (OpenSpec.upto calDatesSpec)) calDatesUptoCard

/-- THE SECOND FORM's CARD OF 'qanatlaw04.CalWeeks'. -/
def calWeeksUptoCard : Claim7 := { stood := { row := calWeeksUptoRow, standIns := [], harness := (true, "7f5c90542c4f5b3dec2728c33b1455d27b1057e01edd59f0fc66c6d5e69edbfa"), looks := true }, kinds := [], alts := [], laidByText := true, laidKinds := [.data, .data, .data, .data, .sentinel, .sentinel, .listed, .data, .pinned], laidTests := true, laidLooks := .later }
def CalWeeksUptoCardSaid : Prop := Claim7.holds Tryz.pinned (.plain (OpenSpec.upto calWeeksSpec)) calWeeksUptoCard

/-- THE SECOND FORM's CARD OF 'qanatlaw04.CalFormats'. -/
def calFormatsUptoCard : Claim7 := { stood := { row := calFormatsUptoRow, standIns := [], harness := (true, "7f5c90542c4f5b3dec2728c33b1455d27b1057e01edd59f0fc66c6d5e69edbfa"), looks := true }, kinds := [], alts := [], laidByText := true, laidKinds := [.data, .data, .data, .data, .sentinel, .sentinel, .listed, .data, .pinned], laidTests := true, laidLooks := .later }
def CalFormatsUptoCardSaid : Prop := Claim7.holds Tryz.pinned (.plain (OpenSpec.upto calFormatsSpec)) calFormatsUptoCard

/-- THE SECOND FORM's CARD OF 'qanatlaw04.CalTimes'. -/
def calTimesUptoCard : Claim7 := { stood := { row := calTimesUptoRow, standIns := [], harness := (true, "7f5c90542c4f5b3dec2728c33b1455d27b1057e01edd59f0fc66c6d5e69edbfa"), looks := true }, kinds := [], alts := [], laidByText := true, laidKinds := [.data, .data, .data, .data, .sentinel, .sentinel, .listed, .data, .pinned], laidTests := true, laidLooks := .later }
def CalTimesUptoCardSaid : Prop := Claim7.holds Tryz.pinned (.plain (OpenSpec.upto calTimesSpec)) calTimesUptoCard

/-- THE SECOND FORM's CARD OF 'qanatlaw04.CalMoments'. -/
def calMomentsUptoCard : Claim7 := { stood := { row := calMomentsUptoRow, standIns := [], harness := (true, "7f5c90542c4f5b3dec2728c33b1455d27b1057e01edd59f0fc66c6d5e69edbfa"), looks := true }, kinds := [], alts := [], laidByText := true, laidKinds := [.data, .data, .data, .data, .sentinel, .sentinel, .listed, .data, .pinned], laidTests := true, laidLooks := .later }
def CalMomentsUptoCardSaid : Prop := Claim7.holds Tryz.pinned (.plain (OpenSpec.upto calMomentsSpec)) calMomentsUptoCard

/-- THE SECOND FORM's CARD OF 'qanatlaw04.CalBijection'. -/
def calBijectionUptoCard : Claim7 := { stood := { row := calBijectionUptoRow, standIns := [], harness := (true, "7f5c90542c4f5b3dec2728c33b1455d27b1057e01edd59f0fc66c6d5e69edbfa"), looks := true }, kinds := [], alts := [], laidByText := true, laidKinds := [.data, .data, .data, .data, .sentinel, .sentinel, .listed, .data, .pinned], laidTests := true, laidLooks := .later }
def CalBijectionUptoCardSaid : Prop := Claim7.holds Tryz.pinned (.plain (OpenSpec.upto calBijectionSpec)) calBijectionUptoCard

/-- THE SECOND FORM's CARD OF 'qanatlaw04.CalWeekly'. -/
def calWeeklyUptoCard : Claim7 := { stood := { row := calWeeklyUptoRow, standIns := [], harness := (true, "7f5c90542c4f5b3dec2728c33b1455d27b1057e01edd59f0fc66c6d5e69edbfa"), looks := true }, kinds := [], alts := [], laidByText := true, laidKinds := [.data, .data, .data, .data, .sentinel, .sentinel, .listed, .data, .pinned], laidTests := true, laidLooks := .later }
def CalWeeklyUptoCardSaid : Prop := Claim7.holds Tryz.pinned (.plain (OpenSpec.upto calWeeklySpec)) calWeeklyUptoCard

/-- THE SECOND FORM's CARD OF 'qanatlaw04.CalReadsBack'. -/
def calReadsBackUptoCard : Claim7 := { stood := { row := calReadsBackUptoRow, standIns := [], harness := (true, "7f5c90542c4f5b3dec2728c33b1455d27b1057e01edd59f0fc66c6d5e69edbfa"), looks := true }, kinds := [], alts := [], laidByText := true, laidKinds := [.data, .data, .data, .data, .sentinel, .sentinel, .listed, .data, .pinned], laidTests := true, laidLooks := .later }
def CalReadsBackUptoCardSaid : Prop := Claim7.holds Tryz.pinned (.plain (OpenSpec.upto calReadsBackSpec)) calReadsBackUptoCard

/-- THE SECOND FORM's CARD OF 'qanatlaw04.CalTimesBack'. -/
def calTimesBackUptoCard : Claim7 := { stood := { row := calTimesBackUptoRow, standIns := [], harness := (true, "7f5c90542c4f5b3dec2728c33b1455d27b1057e01edd59f0fc66c6d5e69edbfa"), looks := true }, kinds := [], alts := [], laidByText := true, laidKinds := [.data, .data, .data, .data, .sentinel, .sentinel, .listed, .data, .pinned], laidTests := true, laidLooks := .later }
def CalTimesBackUptoCardSaid : Prop := Claim7.holds Tryz.pinned (.plain (OpenSpec.upto calTimesBackSpec)) calTimesBackUptoCard

/-- THE SECOND FORM's CARD OF 'qanatlaw04.CalDurations'. -/
def calDurationsUptoCard : Claim7 := { stood := { row := calDurationsUptoRow, standIns := [], harness := (true, "7f5c90542c4f5b3dec2728c33b1455d27b1057e01edd59f0fc66c6d5e69edbfa"), looks := true }, kinds := [], alts := [], laidByText := true, laidKinds := [.data, .data, .data, .data, .sentinel, .sentinel, .listed, .data, .pinned], laidTests := true, laidLooks := .later }
def CalDurationsUptoCardSaid : Prop := Claim7.holds Tryz.pinned (.plain (OpenSpec.upto calDurationsSpec)) calDurationsUptoCard
end Rows
end Go.Proofs.YtmjifmlibgpjiaaGreatDoor
