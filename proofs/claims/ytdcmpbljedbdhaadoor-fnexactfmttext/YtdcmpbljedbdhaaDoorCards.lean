/-
  DERIVED. GIVEN WITH THE SEED: THE CARDS: each row of YtdcmpbljedbdhaaDoorRows.lean that lists a variable, with what it lists TIED to the program's text (the seventh form; the later family's looks); each row that meets fmt, with fmt's text TOLD by the authors' own Lean function (tested against real Go, not proved from fmt's source: count such statements apart). THE CARD IS WHAT COUNTS. Prove the row's statement (the work); the ties are given (YtdcmpbljedbdhaaDoorTie.lean); close each card by the builder's one call (the guide's Derived/Test/ToyasCard.lean, 'card_holds'). Laid BY PROGRAM, IN A SANDBOX (cutbox-door.mjs). By AI agents, Wed Nov 11 2026. No macro, syntax, notation, axiom, sorry.
-/
import Derived.Test.YtdcmpbljedbdhaaDoorRows
import GoSem.ClaimSeven
namespace Go.Proofs.YtdcmpbljedbdhaaDoor
namespace Rows

/-- THE TIED CARD OF 'laws.FnExactFmtText'. -/
def fnExactFmtTextCard : Claim7 := { stood := { row := fnExactFmtTextRow, standIns := [], harness := (true, "90727833085618f5b9fb2dc19b4163098d0dbe1b1751b59657e171216c90f318"), looks := false }, kinds := [], alts := [], laidByText := true, laidKinds := [.data, .data, .data], laidTests := true, laidLooks := .later }
def FnExactFmtTextCardSaid : Prop := Claim7.holds Tryd.pinned (.plain (OpenSpec.ofChange fnExactFmtTextSpec)) fnExactFmtTextCard

/-- THE TIED CARD OF 'laws.FnExactFmtOf'. -/
def fnExactFmtOfCard : Claim7 := { stood := { row := fnExactFmtOfRow, standIns := [], harness := (true, "90727833085618f5b9fb2dc19b4163098d0dbe1b1751b59657e171216c90f318"), looks := false }, kinds := [], alts := [], laidByText := true, laidKinds := [.data, .data, .data], laidTests := true, laidLooks := .later }
def FnExactFmtOfCardSaid : Prop := Claim7.holds Tryd.pinned (.plain (OpenSpec.ofChange fnExactFmtOfSpec)) fnExactFmtOfCard

/-- THE TIED CARD OF 'laws.FnFmtText'. -/
def fnFmtTextCard : Claim7 := { stood := { row := fnFmtTextRow, standIns := [], harness := (true, "90727833085618f5b9fb2dc19b4163098d0dbe1b1751b59657e171216c90f318"), looks := false }, kinds := [], alts := [], laidByText := true, laidKinds := [.data, .data, .data], laidTests := true, laidLooks := .later }
def FnFmtTextCardSaid : Prop := Claim7.holds Tryd.pinned (.plain (OpenSpec.ofChange fnFmtTextSpec)) fnFmtTextCard

/-- THE SECOND FORM's CARD OF 'laws.FnExactFmtText'. -/
def fnExactFmtTextUptoCard : Claim7 := { stood := { row := fnExactFmtTextUptoRow, standIns := [], harness := (true, "90727833085618f5b9fb2dc19b4163098d0dbe1b1751b59657e171216c90f318"), looks := false }, kinds := [], alts := [], laidByText := true, laidKinds := [.data, .data, .data], laidTests := true, laidLooks := .later }
def FnExactFmtTextUptoCardSaid : Prop := Claim7.holds Tryd.pinned (.plain (OpenSpec.upto fnExactFmtTextSpec)) fnExactFmtTextUptoCard

/-- THE SECOND FORM's CARD OF 'laws.FnExactFmtOf'. -/
def fnExactFmtOfUptoCard : Claim7 := { stood := { row := fnExactFmtOfUptoRow, standIns := [], harness := (true, "90727833085618f5b9fb2dc19b4163098d0dbe1b1751b59657e171216c90f318"), looks := false }, kinds := [], alts := [], laidByText := true, laidKinds := [.data, .data, .data], laidTests := true, laidLooks := .later }
def FnExactFmtOfUptoCardSaid : Prop := Claim7.holds Tryd.pinned (.plain (OpenSpec.upto fnExactFmtOfSpec)) fnExactFmtOfUptoCard

/-- THE SECOND FORM's CARD OF 'laws.FnFmtText'. -/
def fnFmtTextUptoCard : Claim7 := { stood := { row := fnFmtTextUptoRow, standIns := [], harness := (true, "90727833085618f5b9fb2dc19b4163098d0dbe1b1751b59657e171216c90f318"), looks := false }, kinds := [], alts := [], laidByText := true, laidKinds := [.data, .data, .data], laidTests := true, laidLooks := .later }
def FnFmtTextUptoCardSaid : Prop := Claim7.holds Tryd.pinned (.plain (OpenSpec.upto fnFmtTextSpec)) fnFmtTextUptoCard
end Rows
end Go.Proofs.YtdcmpbljedbdhaaDoor
