import Derived.Test.YtpaglcojbcndoaaDoorVintE
namespace Go.Proofs.YtpaglcojbcndoaaDoor
open Go.RowKit
set_option linter.unusedVariables false

/-- A text at the beginning of l, at most 'most' bytes long: the error (0: none), the text, what stands behind. -/
def vtkE (l : List Int) (most : Int) : Int := if rdS l = 0 then 2 else if most < 0 ∨ most < rdN l then 3 else if ((l.drop (rdS l)).length : Int) < rdN l then 2 else 0
def vtkT (l : List Int) : List Int := (l.drop (rdS l)).take (rdN l).toNat
def vtkR (l : List Int) : List Int := (l.drop (rdS l)).drop (rdN l).toNat



end Go.Proofs.YtpaglcojbcndoaaDoor
