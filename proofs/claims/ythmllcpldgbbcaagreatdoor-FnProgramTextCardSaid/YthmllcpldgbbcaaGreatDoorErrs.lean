/- The two errors of Go's library, out of a row's list. -/
import Derived.Test.YthmllcpldgbbcaaGreatDoorItoaImpl
namespace Go.Proofs.YthmllcpldgbbcaaGreatDoor
open Go.RowKit Go.ChangeShapes

theorem gR : Tryz.prog.globalNamed "strconv.ErrRange" = some 5 := by kernel_rfl
theorem gS : Tryz.prog.globalNamed "strconv.ErrSyntax" = some 4 := by kernel_rfl
theorem tR : (Tryz.prog.globals[5]?).map (·.type) = some 48 := by kernel_rfl
theorem tS : (Tryz.prog.globals[4]?).map (·.type) = some 48 := by kernel_rfl
theorem star : "*" ++ "errors.errorString" = "*errors.errorString" := by decide
theorem rowE (u : TypeId) (h : Tryz.prog.typeName? 3 u = some "*errors.errorString") : u = 167 :=
  typeName_ptr_named (nm := "errors.errorString") (by rw [star]; kernel_rfl) (by kernel_rfl) (by decide) u (by rw [star]; exact h)
theorem cE : Tryz.prog.cellsOf 169 = 1 := by kernel_rfl
theorem cS : Tryz.prog.cellsOf 9 = 1 := by kernel_rfl
/-- The two errors, out of the row's list. -/
theorem errs {w : World} {x y u : String × DataW Unit} (hL : laidMet Tryz.prog (x :: y :: u :: ("strconv.ErrRange", Rows.laid_strconv_ErrRange) :: [("strconv.ErrSyntax", Rows.laid_strconv_ErrSyntax)]) w) : ∃ p q : Value, w.var? Tryz.prog "strconv.ErrSyntax" = some #[.iface 167 p] ∧ w.var? Tryz.prog "strconv.ErrRange" = some #[.iface 167 q] := by
  have h3 := laidMet.tail (laidMet.tail (laidMet.tail hL))
  obtain ⟨a, _, ha, _⟩ := laid_sentinel h3 gR tR Tryz.underlying48 rowE Tryz.underlying167 Tryz.underlying169 rfl rfl Tryz.underlying9 cE cS
  obtain ⟨b, _, hb, _⟩ := laid_sentinel (laidMet.tail h3) gS tS Tryz.underlying48 rowE Tryz.underlying167 Tryz.underlying169 rfl rfl Tryz.underlying9 cE cS
  exact ⟨_, _, hb, ha⟩
/-- A variable is there still, where what lay below stays. -/
theorem var_on {w w' : World} {n : String} {g : Nat} {v : Value} (hg : Tryz.prog.globalNamed n = some g) (h : w.var? Tryz.prog n = some #[v]) (hb : Below w.heap.size w w') : w'.var? Tryz.prog n = some #[v] := by
  refine var?_below hb hg ?_ h
  unfold World.var? at h
  simp only [hg, Option.bind_some] at h
  rcases Nat.lt_or_ge g w.heap.size with hlt | hge
  · exact hlt
  · rw [Array.getElem?_eq_none hge] at h
    cases h
end Go.Proofs.YthmllcpldgbbcaaGreatDoor
