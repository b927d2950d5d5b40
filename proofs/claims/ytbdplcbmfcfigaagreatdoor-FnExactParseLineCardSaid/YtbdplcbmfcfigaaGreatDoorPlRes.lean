/- What ParseLine hands back. Nothing of the program. -/
import Derived.Test.YtbdplcbmfcfigaaGreatDoorPlainB
namespace Go.Proofs.YtbdplcbmfcfigaaGreatDoor
open Go.RowKit Go.Lib

/-- A line and whether it is one were returned, the line's slices in rows of their own from block B on. -/
def PlRes (TS TK B : Nat) (r : PLine × Bool) (w : World) (e : Ending) (w' : World) : Prop :=
  ∃ va ve, e = .returned (.tuple #[.agg #[.int .i64 r.1.kind, .string r.1.name, va, ve], .bool r.2]) ∧ w'.ownsRow B TS 1 va r.1.args.length (strV r.1.args) ∧ w'.ownsRow B TK 3 ve r.1.expr.length (toksV r.1.expr) ∧ Below w.heap.size w w'
end Go.Proofs.YtbdplcbmfcfigaaGreatDoor
