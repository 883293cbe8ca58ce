/-
  DERIVED. GIVEN WITH THE SEED: THE CARDS: each row of YtmjfleejjhahiaaDoorRows.lean that lists a variable, with what it lists TIED to the program's text (the seventh form; the later family's looks); each row that meets fmt, with fmt's text TOLD by the authors' own Lean function (tested against real Go, not proved from fmt's source: count such statements apart). THE CARD IS WHAT COUNTS. Prove the row's statement (the work); the ties are given (YtmjfleejjhahiaaDoorTie.lean); close each card by the builder's one call (the guide's Derived/Test/ToyasCard.lean, 'card_holds'). Laid BY PROGRAM, IN A SANDBOX (cutbox-door.mjs). By AI agents, Wed Nov 11 2026. No macro, syntax, notation, axiom, sorry.
-/
import Derived.Test.YtmjfleejjhahiaaDoorRows
import GoSem.ClaimSeven
namespace Go.Proofs.YtmjfleejjhahiaaDoor
namespace Rows

/-- THE TIED CARD OF 'laws.FnMade'. -/
def fnMadeCard : Claim7 := { stood := { row := fnMadeRow, standIns := [], harness := (true, "a8db6d387ff59c53dee0e24037306ce28a298f6249a59a411e262680cec63c22"), looks := true }, kinds := [], alts := [], laidByText := true, laidKinds := [.data], laidTests := true, laidLooks := .later }
def FnMadeCardSaid : Prop := Claim7.holds Tryd.pinned (.plain (OpenSpec.ofChange fnMadeSpec)) fnMadeCard

/-- THE TIED CARD OF 'laws.FnNumbers'. -/
def fnNumbersCard : Claim7 := { stood := { row := fnNumbersRow, standIns := [], harness := (true, "a8db6d387ff59c53dee0e24037306ce28a298f6249a59a411e262680cec63c22"), looks := true }, kinds := [], alts := [], laidByText := true, laidKinds := [.data, .data, .data, .sentinel, .sentinel, .data], laidTests := true, laidLooks := .later }
def FnNumbersCardSaid : Prop := Claim7.holds Tryd.pinned (.plain (OpenSpec.ofChange fnNumbersSpec)) fnNumbersCard

/-- THE TIED CARD OF 'laws.FnApart'. -/
def fnApartCard : Claim7 := { stood := { row := fnApartRow, standIns := [], harness := (true, "a8db6d387ff59c53dee0e24037306ce28a298f6249a59a411e262680cec63c22"), looks := true }, kinds := [], alts := [], laidByText := true, laidKinds := [.data], laidTests := true, laidLooks := .later }
def FnApartCardSaid : Prop := Claim7.holds Tryd.pinned (.plain (OpenSpec.ofChange fnApartSpec)) fnApartCard

/-- THE TIED CARD OF 'laws.FnRecipes'. -/
def fnRecipesCard : Claim7 := { stood := { row := fnRecipesRow, standIns := [], harness := (true, "a8db6d387ff59c53dee0e24037306ce28a298f6249a59a411e262680cec63c22"), looks := true }, kinds := [], alts := [], laidByText := true, laidKinds := [.data], laidTests := true, laidLooks := .later }
def FnRecipesCardSaid : Prop := Claim7.holds Tryd.pinned (.plain (OpenSpec.ofChange fnRecipesSpec)) fnRecipesCard

/-- THE TIED CARD OF 'laws.FnNoSecret'. -/
def fnNoSecretCard : Claim7 := { stood := { row := fnNoSecretRow, standIns := [], harness := (true, "a8db6d387ff59c53dee0e24037306ce28a298f6249a59a411e262680cec63c22"), looks := true }, kinds := [], alts := [], laidByText := true, laidKinds := [.data], laidTests := true, laidLooks := .later }
def FnNoSecretCardSaid : Prop := Claim7.holds Tryd.pinned (.plain (OpenSpec.ofChange fnNoSecretSpec)) fnNoSecretCard

/-- THE TIED CARD OF 'laws.FnExactPartsOf'. -/
def fnExactPartsOfCard : Claim7 := { stood := { row := fnExactPartsOfRow, standIns := [], harness := (true, "a8db6d387ff59c53dee0e24037306ce28a298f6249a59a411e262680cec63c22"), looks := true }, kinds := [], alts := [], laidByText := true, laidKinds := [.data], laidTests := true, laidLooks := .later }
def FnExactPartsOfCardSaid : Prop := Claim7.holds Tryd.pinned (.plain (OpenSpec.ofChange fnExactPartsOfSpec)) fnExactPartsOfCard

/-- THE TIED CARD OF 'laws.FnExactMake'. -/
def fnExactMakeCard : Claim7 := { stood := { row := fnExactMakeRow, standIns := [], harness := (true, "a8db6d387ff59c53dee0e24037306ce28a298f6249a59a411e262680cec63c22"), looks := true }, kinds := [], alts := [], laidByText := true, laidKinds := [.data], laidTests := true, laidLooks := .later }
def FnExactMakeCardSaid : Prop := Claim7.holds Tryd.pinned (.plain (OpenSpec.ofChange fnExactMakeSpec)) fnExactMakeCard

/-- THE TIED CARD OF 'laws.FnExactStands'. -/
def fnExactStandsCard : Claim7 := { stood := { row := fnExactStandsRow, standIns := [], harness := (true, "a8db6d387ff59c53dee0e24037306ce28a298f6249a59a411e262680cec63c22"), looks := true }, kinds := [], alts := [], laidByText := true, laidKinds := [.data], laidTests := true, laidLooks := .later }
def FnExactStandsCardSaid : Prop := Claim7.holds Tryd.pinned (.plain (OpenSpec.ofChange fnExactStandsSpec)) fnExactStandsCard

/-- THE TIED CARD OF 'laws.FnExactSecretsOf'. -/
def fnExactSecretsOfCard : Claim7 := { stood := { row := fnExactSecretsOfRow, standIns := [], harness := (true, "a8db6d387ff59c53dee0e24037306ce28a298f6249a59a411e262680cec63c22"), looks := true }, kinds := [], alts := [], laidByText := true, laidKinds := [.data], laidTests := true, laidLooks := .later }
def FnExactSecretsOfCardSaid : Prop := Claim7.holds Tryd.pinned (.plain (OpenSpec.ofChange fnExactSecretsOfSpec)) fnExactSecretsOfCard

/-- THE TIED CARD OF 'laws.FnExactTakeApart'. -/
def fnExactTakeApartCard : Claim7 := { stood := { row := fnExactTakeApartRow, standIns := [], harness := (true, "a8db6d387ff59c53dee0e24037306ce28a298f6249a59a411e262680cec63c22"), looks := true }, kinds := [], alts := [], laidByText := true, laidKinds := [.data], laidTests := true, laidLooks := .later }
def FnExactTakeApartCardSaid : Prop := Claim7.holds Tryd.pinned (.plain (OpenSpec.ofChange fnExactTakeApartSpec)) fnExactTakeApartCard

/-- THE TIED CARD OF 'laws.FnExactCanMake'. -/
def fnExactCanMakeCard : Claim7 := { stood := { row := fnExactCanMakeRow, standIns := [], harness := (true, "a8db6d387ff59c53dee0e24037306ce28a298f6249a59a411e262680cec63c22"), looks := true }, kinds := [], alts := [], laidByText := true, laidKinds := [.data], laidTests := true, laidLooks := .later }
def FnExactCanMakeCardSaid : Prop := Claim7.holds Tryd.pinned (.plain (OpenSpec.ofChange fnExactCanMakeSpec)) fnExactCanMakeCard

/-- THE TIED CARD OF 'laws.FnExactRunRecipe'. -/
def fnExactRunRecipeCard : Claim7 := { stood := { row := fnExactRunRecipeRow, standIns := [], harness := (true, "a8db6d387ff59c53dee0e24037306ce28a298f6249a59a411e262680cec63c22"), looks := true }, kinds := [], alts := [], laidByText := true, laidKinds := [.data], laidTests := true, laidLooks := .later }
def FnExactRunRecipeCardSaid : Prop := Claim7.holds Tryd.pinned (.plain (OpenSpec.ofChange fnExactRunRecipeSpec)) fnExactRunRecipeCard

/-- THE SECOND FORM's CARD OF 'laws.FnMade'. -/
def fnMadeUptoCard : Claim7 := { stood := { row := fnMadeUptoRow, standIns := [], harness := (true, "a8db6d387ff59c53dee0e24037306ce28a298f6249a59a411e262680cec63c22"), looks := true }, kinds := [], alts := [], laidByText := true, laidKinds := [.data], laidTests := true, laidLooks := .later }
def FnMadeUptoCardSaid : Prop := Claim7.holds Tryd.pinned (.plain (OpenSpec.upto fnMadeSpec)) fnMadeUptoCard

/-- THE SECOND FORM's CARD OF 'laws.FnNumbers'. -/
def fnNumbersUptoCard : Claim7 := { stood := { row := fnNumbersUptoRow, standIns := [], harness := (true, "a8db6d387ff59c53dee0e24037306ce28a298f6249a59a411e262680cec63c22"), looks := true }, kinds := [], alts := [], laidByText := true, laidKinds := [.data, .data, .data, .sentinel, .sentinel, .data], laidTests := true, laidLooks := .later }
def FnNumbersUptoCardSaid : Prop := Claim7.holds Tryd.pinned (.plain (OpenSpec.upto fnNumbersSpec)) fnNumbersUptoCard

/-- THE SECOND FORM's CARD OF 'laws.FnApart'. -/
def fnApartUptoCard : Claim7 := { stood := { row := fnApartUptoRow, standIns := [], harness := (true, "a8db6d387ff59c53dee0e24037306ce28a298f6249a59a411e262680cec63c22"), looks := true }, kinds := [], alts := [], laidByText := true, laidKinds := [.data], laidTests := true, laidLooks := .later }
def FnApartUptoCardSaid : Prop := Claim7.holds Tryd.pinned (.plain (OpenSpec.upto fnApartSpec)) fnApartUptoCard

/-- THE SECOND FORM's CARD OF 'laws.FnRecipes'. -/
def fnRecipesUptoCard : Claim7 := { stood := { row := fnRecipesUptoRow, standIns := [], harness := (true, "a8db6d387ff59c53dee0e24037306ce28a298f6249a59a411e262680cec63c22"), looks := true }, kinds := [], alts := [], laidByText := true, laidKinds := [.data], laidTests := true, laidLooks := .later }
def FnRecipesUptoCardSaid : Prop := Claim7.holds Tryd.pinned (.plain (OpenSpec.upto fnRecipesSpec)) fnRecipesUptoCard

/-- THE SECOND FORM's CARD OF 'laws.FnNoSecret'. -/
def fnNoSecretUptoCard : Claim7 := { stood := { row := fnNoSecretUptoRow, standIns := [], harness := (true, "a8db6d387ff59c53dee0e24037306ce28a298f6249a59a411e262680cec63c22"), looks := true }, kinds := [], alts := [], laidByText := true, laidKinds := [.data], laidTests := true, laidLooks := .later }
def FnNoSecretUptoCardSaid : Prop := Claim7.holds Tryd.pinned (.plain (OpenSpec.upto fnNoSecretSpec)) fnNoSecretUptoCard

/-- THE SECOND FORM's CARD OF 'laws.FnExactPartsOf'. -/
def fnExactPartsOfUptoCard : Claim7 := { stood := { row := fnExactPartsOfUptoRow, standIns := [], harness := (true, "a8db6d387ff59c53dee0e24037306ce28a298f6249a59a411e262680cec63c22"), looks := true }, kinds := [], alts := [], laidByText := true, laidKinds := [.data], laidTests := true, laidLooks := .later }
def FnExactPartsOfUptoCardSaid : Prop := Claim7.holds Tryd.pinned (.plain (OpenSpec.upto fnExactPartsOfSpec)) fnExactPartsOfUptoCard

/-- THE SECOND FORM's CARD OF 'laws.FnExactMake'. -/
def fnExactMakeUptoCard : Claim7 := { stood := { row := fnExactMakeUptoRow, standIns := [], harness := (true, "a8db6d387ff59c53dee0e24037306ce28a298f6249a59a411e262680cec63c22"), looks := true }, kinds := [], alts := [], laidByText := true, laidKinds := [.data], laidTests := true, laidLooks := .later }
def FnExactMakeUptoCardSaid : Prop := Claim7.holds Tryd.pinned (.plain (OpenSpec.upto fnExactMakeSpec)) fnExactMakeUptoCard

/-- THE SECOND FORM's CARD OF 'laws.FnExactStands'. -/
def fnExactStandsUptoCard : Claim7 := { stood := { row := fnExactStandsUptoRow, standIns := [], harness := (true, "a8db6d387ff59c53dee0e24037306ce28a298f6249a59a411e262680cec63c22"), looks := true }, kinds := [], alts := [], laidByText := true, laidKinds := [.data], laidTests := true, laidLooks := .later }
def FnExactStandsUptoCardSaid : Prop := Claim7.holds Tryd.pinned (.plain (OpenSpec.upto fnExactStandsSpec)) fnExactStandsUptoCard

/-- THE SECOND FORM's CARD OF 'laws.FnExactSecretsOf'. -/
def fnExactSecretsOfUptoCard : Claim7 := { stood := { row := fnExactSecretsOfUptoRow, standIns := [], harness := (true, "a8db6d387ff59c53dee0e24037306ce28a298f6249a59a411e262680cec63c22"), looks := true }, kinds := [], alts := [], laidByText := true, laidKinds := [.data], laidTests := true, laidLooks := .later }
def FnExactSecretsOfUptoCardSaid : Prop := Claim7.holds Tryd.pinned (.plain (OpenSpec.upto fnExactSecretsOfSpec)) fnExactSecretsOfUptoCard

/-- THE SECOND FORM's CARD OF 'laws.FnExactTakeApart'. -/
def fnExactTakeApartUptoCard : Claim7 := { stood := { row := fnExactTakeApartUptoRow, standIns := [], harness := (true, "a8db6d387ff59c53dee0e24037306ce28a298f6249a59a411e262680cec63c22"), looks := true }, kinds := [], alts := [], laidByText := true, laidKinds := [.data], laidTests := true, laidLooks := .later }
def FnExactTakeApartUptoCardSaid : Prop := Claim7.holds Tryd.pinned (.plain (OpenSpec.upto fnExactTakeApartSpec)) fnExactTakeApartUptoCard

/-- THE SECOND FORM's CARD OF 'laws.FnExactCanMake'. -/
def fnExactCanMakeUptoCard : Claim7 := { stood := { row := fnExactCanMakeUptoRow, standIns := [], harness := (true, "a8db6d387ff59c53dee0e24037306ce28a298f6249a59a411e262680cec63c22"), looks := true }, kinds := [], alts := [], laidByText := true, laidKinds := [.data], laidTests := true, laidLooks := .later }
def FnExactCanMakeUptoCardSaid : Prop := Claim7.holds Tryd.pinned (.plain (OpenSpec.upto fnExactCanMakeSpec)) fnExactCanMakeUptoCard

/-- THE SECOND FORM's CARD OF 'laws.FnExactRunRecipe'. -/
def fnExactRunRecipeUptoCard : Claim7 := { stood := { row := fnExactRunRecipeUptoRow, standIns := [], harness := (true, "a8db6d387ff59c53dee0e24037306ce28a298f6249a59a411e262680cec63c22"), looks := true }, kinds := [], alts := [], laidByText := true, laidKinds := [.data], laidTests := true, laidLooks := .later }
def FnExactRunRecipeUptoCardSaid : Prop := Claim7.holds Tryd.pinned (.plain (OpenSpec.upto fnExactRunRecipeSpec)) fnExactRunRecipeUptoCard
end Rows
end Go.Proofs.YtmjfleejjhahiaaDoor
