/- The laws' own functions on rows of tokens: the size, and the program's row made of it; The laws' toTokS: the program's row made of the argument; The laws' eqTokS: two rows that hold the same tokens are equal; The laws' eqStringS: two rows of the same strings are equal; The laws' own functions on one line: the size, the line made of the argument, equality; The laws' toLine: the program's line made of the argument; The laws' own functions on rows of lines: the size, the program's row made of it. -/
import Derived.Test.YtaplbefdijcceaaGreatDoorI34
import Derived.Test.YtaplbefdijcceaaGreatDoorI00
import Derived.Test.YtaplbefdijcceaaGreatDoorI06
import Derived.Test.YtaplbefdijcceaaGreatDoorRows
import Derived.Test.YtaplbefdijcceaaGreatDoorI01
import Derived.Test.YtaplbefdijcceaaGreatDoorI02
import Derived.Laws.MakeOwn
import Derived.Deep.QuietTactic
import Derived.BigQuiet
import Derived.Outline
import Derived.Lib.Hide
import Derived.Deep.RegionHeld3
import Derived.WalkSmall
namespace Go.Proofs.YtaplbefdijcceaaGreatDoor
open Go.RowKit Go.Lib
end Go.Proofs.YtaplbefdijcceaaGreatDoor

namespace Go.Proofs.YtaplbefdijcceaaGreatDoor
open Go.RowKit Go.Lib
end Go.Proofs.YtaplbefdijcceaaGreatDoor

namespace Go.Proofs.YtaplbefdijcceaaGreatDoor
open Go.RowKit Go.Lib
end Go.Proofs.YtaplbefdijcceaaGreatDoor

namespace Go.Proofs.YtaplbefdijcceaaGreatDoor
open Go.RowKit Go.Lib
end Go.Proofs.YtaplbefdijcceaaGreatDoor

namespace Go.Proofs.YtaplbefdijcceaaGreatDoor
open Go.RowKit Go.Lib
end Go.Proofs.YtaplbefdijcceaaGreatDoor

namespace Go.Proofs.YtaplbefdijcceaaGreatDoor
open Go.RowKit Go.Lib
end Go.Proofs.YtaplbefdijcceaaGreatDoor

namespace Go.Proofs.YtaplbefdijcceaaGreatDoor
open Go.RowKit Go.Lib
def LnsRes (TL TS TK B : Nat) (ps : List PLine) (w : World) (e : Ending) (w' : World) : Prop :=
  ∃ v X, e = .returned v ∧ w'.ownsRow B TL 4 v X.length (lnsV X) ∧ Made TS TK B w' X ∧ plL X = ps ∧ Below w.heap.size w w'
theorem infoLn : (Tryz.prog.info? 42).map (fun i => (i.zero, i.size, i.bytes)) = some (some (.agg #[.int .i64 0, .string ⟨#[]⟩, .slice none 0 0, .slice none 0 0]), 4, 72) := by kernel_rfl
theorem row_block {B T n s g o c : Nat} {w : World} {xs : List Value} (h : w.ownsRow B T s (.slice (some ⟨g, o, none⟩) n c) n xs) : ∃ cur, w.heap[g]? = some (.cells cur T (0, 0)) := by
  rcases h.2 with ⟨e, _⟩ | ⟨g', cap, cur, e, _, hg, _⟩
  · injection e with e; cases e
  · injection e with e
    injection e with e
    injection e with e
    subst e
    exact ⟨cur, hg⟩
end Go.Proofs.YtaplbefdijcceaaGreatDoor
