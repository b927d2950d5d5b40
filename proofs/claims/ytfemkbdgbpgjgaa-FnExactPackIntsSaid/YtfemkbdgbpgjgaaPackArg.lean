/- A row of numbers as an argument of a law. -/
import Derived.Test.YtfemkbdgbpgjgaaItmPlain
namespace Go.Proofs.Ytfemkbdgbpgjgaa
open Go.RowKit Go.Lib Go.ChangeShapes Go.WideShapes Go.Deep

section
variable {H : Type} {enc : TypeId × Value → H} {P : Program} {w : World} {held : Bool}
theorem argIn_of {t e : TypeId} {a : Option Addr} {len cap : Nat} {d : DataW H} {p : List MemPlace} (ht : P.underlying t = some (.slice e)) (he : P.underlying e = some (.int .i64)) (hC : P.cellsOf e = 1)
    (h : DataW.Trod enc P w 0 (fun _ => true) held t (.slice a len cap) d p) : ∃ l : List Int, l.length = len ∧ len ≤ maxLen ∧ ArgIn w a l := by
  obtain ⟨fuel, hf⟩ := h
  have hf2 := hf
  simp only [Value.cells] at hf2
  obtain ⟨l, a', c', e', wA, mA⟩ := argIn_at ht he hC hf2
  injection e' with e1 e2 e3
  subst e1 e2 e3
  exact ⟨l, rfl, mA, wA⟩
end
end Go.Proofs.Ytfemkbdgbpgjgaa
