/- Reading a list of strings. Nothing of the program. -/
import Derived.Test.YtbdplcbmfcfigaaDoorFieldsPlain
namespace Go.Proofs.YtbdplcbmfcfigaaDoor
open Go.RowKit Go.Lib

/-- What a call may read of a list of strings: its j-th element. -/
def ReadS (w : World) (a : Option Addr) (l : List ByteArray) : Prop := ∀ j (h : j < l.length), ∃ g, a = some ⟨g, 0, none⟩ ∧ w.cell? ⟨g, j, none⟩ = some (.string l[j])
theorem reads_of {B T c : Nat} {w : World} {a : Option Addr} {l : List ByteArray} (h : w.ownsRow B T 1 (.slice a l.length c) l.length (strV l)) : ReadS w a l := by
  intro j hj
  rcases h.2 with ⟨he, h0⟩ | ⟨g, cap, cur, he, _⟩
  · omega
  · have ha : a = some ⟨g, 0, none⟩ := by injection he
    subst ha
    refine ⟨g, rfl, ?_⟩
    rw [h.cellAt j (by omega)]
    simp [strV, hj]
end Go.Proofs.YtbdplcbmfcfigaaDoor
