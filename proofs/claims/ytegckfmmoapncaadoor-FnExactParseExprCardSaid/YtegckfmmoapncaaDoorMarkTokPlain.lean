/- The marks that the laws write into rows of tokens. Nothing of the program. -/
import Derived.Test.YtegckfmmoapncaaDoorTokRows
import Derived.Test.YtegckfmmoapncaaDoorMarkPlain
namespace Go.Proofs.YtegckfmmoapncaaDoor
open Go.RowKit Go.Lib

def mkTok (m j : Nat) : TokL := ⟨((m + 3 * j : Nat) : Int), ((m + 3 * j + 1 : Nat) : Int), mkT (m + 3 * j + 2)⟩
def mkTs (m n : Nat) : List TokL := (List.range n).map (mkTok m)
theorem mkTs_length (m n : Nat) : (mkTs m n).length = n := by simp [mkTs]
theorem mkTs_get (m n j : Nat) (h : j < (mkTs m n).length) : (mkTs m n)[j] = mkTok m j := by simp [mkTs]
end Go.Proofs.YtegckfmmoapncaaDoor
