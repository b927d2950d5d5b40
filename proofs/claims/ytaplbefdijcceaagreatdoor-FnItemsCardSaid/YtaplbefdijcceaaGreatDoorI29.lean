/- The model's Operands; The model's Wrap and Apply; The model's l06Fold and FoldExpr; The program's table of shapes, as its initialiser lays it. -/
import Derived.Test.YtaplbefdijcceaaGreatDoorI28
import Derived.Test.YtaplbefdijcceaaGreatDoorI00
import Derived.Test.YtaplbefdijcceaaGreatDoorRows
import Derived.Test.YtaplbefdijcceaaGreatDoorI02
import Derived.Test.YtaplbefdijcceaaGreatDoorI03
import Derived.Test.YtaplbefdijcceaaGreatDoorI06
import Derived.Test.YtaplbefdijcceaaGreatDoorI01
import Derived.Outline
import Derived.Lib.Hide
import Derived.Deep.QuietTactic
import Derived.Deep.DeepCutAuto
import Derived.BigQuiet
import Derived.WalkSmall
namespace Go.Proofs.YtaplbefdijcceaaGreatDoor
open Go.RowKit Go.Lib
end Go.Proofs.YtaplbefdijcceaaGreatDoor

namespace Go.Proofs.YtaplbefdijcceaaGreatDoor
open Go.RowKit Go.Lib
end Go.Proofs.YtaplbefdijcceaaGreatDoor

namespace Go.Proofs.YtaplbefdijcceaaGreatDoor
open Go.RowKit Go.Lib
end Go.Proofs.YtaplbefdijcceaaGreatDoor

namespace Go.Proofs.YtaplbefdijcceaaGreatDoor
open Go.RowKit Go.Lib
theorem gSh : Tryz.prog.globalNamed "loop.example/g03314/impl.lineShapes" = some 0 := by kernel_rfl
theorem tSh : (Tryz.prog.globals[0]?).map (·.type) = some 200 := by kernel_rfl
theorem cSh : Tryz.prog.cellsOf 200 = 8 * 4 := by kernel_rfl
theorem cSh1 : Tryz.prog.cellsOf 199 = 4 := by kernel_rfl
theorem cStr : Tryz.prog.cellsOf 9 = 1 := by kernel_rfl
theorem cBool : Tryz.prog.cellsOf 4 = 1 := by kernel_rfl
def Shapes (w : World) : Prop := ∃ cs : List Value, w.var? Tryz.prog "loop.example/g03314/impl.lineShapes" = some cs.toArray ∧
  ∀ k : Nat, k < 8 → cs[k * 4]? = some (.string (wordZ (k : Int))) ∧ cs[k * 4 + 1]? = some (.bool (namedB (k : Int))) ∧ cs[k * 4 + 2]? = some (.bool (decide ((k : Int) = 0))) ∧ cs[k * 4 + 3]? = some (.bool (exprK (k : Int)))
theorem laid_is : (Rows.laid_loop_example_g03314_impl_lineShapes : DataW Unit) = .agg (shapesT.map row4D) := by rfl
theorem shapes_head {rest : List (String × DataW Unit)} {W : World} (h : laidMet Tryz.prog (("loop.example/g03314/impl.lineShapes", Rows.laid_loop_example_g03314_impl_lineShapes) :: rest) W) : Shapes W := by
  obtain ⟨ps, ⟨g', t', cs, fuel, p, q, hg', ht', hvar, hd, _, _⟩, _⟩ := h
  obtain rfl := Option.some.inj (tSh.symm.trans ((Option.some.inj (gSh.symm.trans hg')) ▸ ht'))
  rw [laid_is] at hd
  have hc := cells_of_rows4 (P := Tryz.prog) Tryz.underlying200 Tryz.underlying199 cSh1 cSh Tryz.underlying9 Tryz.underlying4 Tryz.underlying4 Tryz.underlying4 ⟨rfl, cStr⟩ ⟨rfl, cBool⟩ ⟨rfl, cBool⟩ ⟨rfl, cBool⟩ hd
  refine ⟨_, hvar, fun k hk => ?_⟩
  obtain ⟨⟨s, c0, e0⟩, c1, c2, c3⟩ := hc k _ (shapes_at k hk)
  exact ⟨by rw [c0, bl_eq e0], c1, c2, c3⟩
theorem Shapes.on {w w' : World} (h : Shapes w) (hb : Below w.heap.size w w') : Shapes w' := by
  obtain ⟨cs, hv, hc⟩ := h
  refine ⟨cs, var?_below hb gSh ?_ hv, hc⟩
  have := World.var?_cell gSh hv 0
  have h0 := (hc 0 (by omega)).1
  simp only [Nat.zero_mul] at h0
  exact World.block_lt_of_cell? w _ (this.trans (by simpa using h0))
theorem Shapes.at {w : World} (h : Shapes w) (k : Nat) (hk : k < 8) :
    w.cell? ⟨0, k * 4, none⟩ = some (.string (wordZ (k : Int))) ∧ w.cell? ⟨0, k * 4 + 1, none⟩ = some (.bool (namedB (k : Int))) ∧
    w.cell? ⟨0, k * 4 + 2, none⟩ = some (.bool (decide ((k : Int) = 0))) ∧ w.cell? ⟨0, k * 4 + 3, none⟩ = some (.bool (exprK (k : Int))) := by
  obtain ⟨cs, hv, hc⟩ := h
  have hv' := World.var?_cell gSh hv
  obtain ⟨c0, c1, c2, c3⟩ := hc k hk
  exact ⟨(hv' _).trans (by simpa using c0), (hv' _).trans (by simpa using c1), (hv' _).trans (by simpa using c2), (hv' _).trans (by simpa using c3)⟩
end Go.Proofs.YtaplbefdijcceaaGreatDoor
