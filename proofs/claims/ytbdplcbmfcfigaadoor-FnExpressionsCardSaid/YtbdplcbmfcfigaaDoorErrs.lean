/- The two errors of Go's library, out of a row's list. -/
import Derived.Test.YtbdplcbmfcfigaaDoorItoaImpl
namespace Go.Proofs.YtbdplcbmfcfigaaDoor
open Go.RowKit Go.ChangeShapes

theorem gR : Tryd.prog.globalNamed "strconv.ErrRange" = some 4 := by kernel_rfl
theorem gS : Tryd.prog.globalNamed "strconv.ErrSyntax" = some 3 := by kernel_rfl
theorem tR : (Tryd.prog.globals[4]?).map (·.type) = some 86 := by kernel_rfl
theorem tS : (Tryd.prog.globals[3]?).map (·.type) = some 86 := by kernel_rfl
theorem star : "*" ++ "errors.errorString" = "*errors.errorString" := by decide
theorem rowE (u : TypeId) (h : Tryd.prog.typeName? 3 u = some "*errors.errorString") : u = 155 :=
  typeName_ptr_named (nm := "errors.errorString") (by rw [star]; kernel_rfl) (by kernel_rfl) (by decide) u (by rw [star]; exact h)
theorem cE : Tryd.prog.cellsOf 157 = 1 := by kernel_rfl
theorem cS : Tryd.prog.cellsOf 9 = 1 := by kernel_rfl
/-- The two errors, out of the row's list. -/
theorem errs {w : World} {x y u : String × DataW Unit} (hL : laidMet Tryd.prog (x :: y :: u :: ("strconv.ErrRange", Rows.laid_strconv_ErrRange) :: [("strconv.ErrSyntax", Rows.laid_strconv_ErrSyntax)]) w) : ∃ p q : Value, w.var? Tryd.prog "strconv.ErrSyntax" = some #[.iface 155 p] ∧ w.var? Tryd.prog "strconv.ErrRange" = some #[.iface 155 q] := by
  have h3 := laidMet.tail (laidMet.tail (laidMet.tail hL))
  obtain ⟨a, _, ha, _⟩ := laid_sentinel h3 gR tR Tryd.underlying86 rowE Tryd.underlying155 Tryd.underlying157 rfl rfl Tryd.underlying9 cE cS
  obtain ⟨b, _, hb, _⟩ := laid_sentinel (laidMet.tail h3) gS tS Tryd.underlying86 rowE Tryd.underlying155 Tryd.underlying157 rfl rfl Tryd.underlying9 cE cS
  exact ⟨_, _, hb, ha⟩
/-- A variable is there still, where what lay below stays. -/
theorem var_on {w w' : World} {n : String} {g : Nat} {v : Value} (hg : Tryd.prog.globalNamed n = some g) (h : w.var? Tryd.prog n = some #[v]) (hb : Below w.heap.size w w') : w'.var? Tryd.prog n = some #[v] := by
  refine var?_below hb hg ?_ h
  unfold World.var? at h
  simp only [hg, Option.bind_some] at h
  rcases Nat.lt_or_ge g w.heap.size with hlt | hge
  · exact hlt
  · rw [Array.getElem?_eq_none hge] at h
    cases h
end Go.Proofs.YtbdplcbmfcfigaaDoor
