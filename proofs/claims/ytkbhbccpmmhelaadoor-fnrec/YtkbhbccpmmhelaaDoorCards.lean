/-
  DERIVED. GIVEN WITH THE SEED: THE CARDS: each row of YtkbhbccpmmhelaaDoorRows.lean that lists a variable, with what it lists TIED to the program's text (the seventh form; the later family's looks); each row that meets fmt, with fmt's text TOLD by the authors' own Lean function (tested against real Go, not proved from fmt's source: count such statements apart). THE CARD IS WHAT COUNTS. Prove the row's statement (the work); the ties are given (YtkbhbccpmmhelaaDoorTie.lean); close each card by the builder's one call (the guide's Derived/Test/ToyasCard.lean, 'card_holds'). Laid BY PROGRAM, IN A SANDBOX (cutbox-door.mjs). By AI agents, Wed Nov 11 2026. No macro, syntax, notation, axiom, sorry.
-/
import Derived.Test.YtkbhbccpmmhelaaDoorRows
import GoSem.ClaimSeven
namespace Go.Proofs.YtkbhbccpmmhelaaDoor
namespace Rows

/-- THE TIED CARD OF 'laws.FnRec'. -/
def fnRecCard : Claim7 := { stood := { row := fnRecRow, standIns := [], harness := (true, "06602c101a772da89dbf1563bb28c8fd8feb476b569f3ea00c0a7d2856e8def4"), looks := false }, kinds := [], alts := [], laidByText := true, laidKinds := [.data, .data, .data], laidTests := true, laidLooks := .later }
def FnRecCardSaid : Prop := Claim7.holds Tryd.pinned (.plain (OpenSpec.ofChange fnRecSpec)) fnRecCard

/-- THE TIED CARD OF 'laws.FnExactRecText'. -/
def fnExactRecTextCard : Claim7 := { stood := { row := fnExactRecTextRow, standIns := [], harness := (true, "06602c101a772da89dbf1563bb28c8fd8feb476b569f3ea00c0a7d2856e8def4"), looks := false }, kinds := [], alts := [], laidByText := true, laidKinds := [.data, .data, .data], laidTests := true, laidLooks := .later }
def FnExactRecTextCardSaid : Prop := Claim7.holds Tryd.pinned (.plain (OpenSpec.ofChange fnExactRecTextSpec)) fnExactRecTextCard

/-- THE TIED CARD OF 'laws.FnExactTextRec'. -/
def fnExactTextRecCard : Claim7 := { stood := { row := fnExactTextRecRow, standIns := [], harness := (true, "06602c101a772da89dbf1563bb28c8fd8feb476b569f3ea00c0a7d2856e8def4"), looks := false }, kinds := [], alts := [], laidByText := true, laidKinds := [.data, .data, .data], laidTests := true, laidLooks := .later }
def FnExactTextRecCardSaid : Prop := Claim7.holds Tryd.pinned (.plain (OpenSpec.ofChange fnExactTextRecSpec)) fnExactTextRecCard

/-- THE SECOND FORM's CARD OF 'laws.FnRec'. -/
def fnRecUptoCard : Claim7 := { stood := { row := fnRecUptoRow, standIns := [], harness := (true, "06602c101a772da89dbf1563bb28c8fd8feb476b569f3ea00c0a7d2856e8def4"), looks := false }, kinds := [], alts := [], laidByText := true, laidKinds := [.data, .data, .data], laidTests := true, laidLooks := .later }
def FnRecUptoCardSaid : Prop := Claim7.holds Tryd.pinned (.plain (OpenSpec.upto fnRecSpec)) fnRecUptoCard

/-- THE SECOND FORM's CARD OF 'laws.FnExactRecText'. -/
def fnExactRecTextUptoCard : Claim7 := { stood := { row := fnExactRecTextUptoRow, standIns := [], harness := (true, "06602c101a772da89dbf1563bb28c8fd8feb476b569f3ea00c0a7d2856e8def4"), looks := false }, kinds := [], alts := [], laidByText := true, laidKinds := [.data, .data, .data], laidTests := true, laidLooks := .later }
def FnExactRecTextUptoCardSaid : Prop := Claim7.holds Tryd.pinned (.plain (OpenSpec.upto fnExactRecTextSpec)) fnExactRecTextUptoCard

/-- THE SECOND FORM's CARD OF 'laws.FnExactTextRec'. -/
def fnExactTextRecUptoCard : Claim7 := { stood := { row := fnExactTextRecUptoRow, standIns := [], harness := (true, "06602c101a772da89dbf1563bb28c8fd8feb476b569f3ea00c0a7d2856e8def4"), looks := false }, kinds := [], alts := [], laidByText := true, laidKinds := [.data, .data, .data], laidTests := true, laidLooks := .later }
def FnExactTextRecUptoCardSaid : Prop := Claim7.holds Tryd.pinned (.plain (OpenSpec.upto fnExactTextRecSpec)) fnExactTextRecUptoCard
end Rows
end Go.Proofs.YtkbhbccpmmhelaaDoor
