/- A row of texts read from some place on, and what is left of it behind its first text. Nothing of the program. -/
import Derived.Test.YthmllcpldgbbcaaGreatDoorPlainB
import Derived.Laws.Slices
namespace Go.Proofs.YthmllcpldgbbcaaGreatDoor
open Go.RowKit Go.Lib

/-- What a call may read of a row of texts, from some place on. -/
def ReadO (w : World) (a : Option Addr) (l : List ByteArray) : Prop := ∀ j (h : j < l.length), ∃ g o, a = some ⟨g, o, none⟩ ∧ w.cell? ⟨g, o + j, none⟩ = some (.string l[j])
theorem readO_of {w : World} {a : Option Addr} {l : List ByteArray} (h : ReadS w a l) : ReadO w a l := by
  intro j hj
  obtain ⟨g, e, c⟩ := h j hj
  exact ⟨g, 0, e, by rw [Nat.zero_add]; exact c⟩
theorem ReadO.below {w w' : World} {a : Option Addr} {l : List ByteArray} (h : ReadO w a l) (hb : Below w.heap.size w w') : ReadO w' a l := by
  intro j hj
  obtain ⟨g, o, e, c⟩ := h j hj
  have hg := World.block_lt_of_cell? w _ c
  exact ⟨g, o, e, (hb.cell (p := ⟨g, o + j, none⟩) hg).trans c⟩
theorem ReadO.grown {w w' : World} {a : Option Addr} {l : List ByteArray} {r : Option Nat} (h : ReadO w a l) (hg : w.grownBy w' r) (hr : ∀ x, a = some x → some x.block ≠ r) : ReadO w' a l := by
  intro j hj
  obtain ⟨g, o, e, c⟩ := h j hj
  exact ⟨g, o, e, hg.cell c (show some g ≠ r from hr _ e)⟩
theorem ReadO.tail {w : World} {g o o' : Nat} {x : ByteArray} {l : List ByteArray} (h : ReadO w (some ⟨g, o, none⟩) (x :: l)) (ho : l.length = 0 ∨ o' = o + 1) : ReadO w (some ⟨g, o', none⟩) l := by
  intro j hj
  rcases ho with h0 | rfl
  · omega
  · obtain ⟨g1, o1, e, c⟩ := h (j + 1) (by simp; omega)
    injection e with e
    injection e with e1 e2
    subst e1 e2
    exact ⟨g, o + 1, rfl, by rw [Nat.add_assoc, Nat.add_comm 1 j]; exact c⟩
theorem ReadO.head {w : World} {g o : Nat} {x : ByteArray} {l : List ByteArray} (h : ReadO w (some ⟨g, o, none⟩) (x :: l)) : w.cell? ⟨g, o, none⟩ = some (.string x) := by
  obtain ⟨g1, o1, e, c⟩ := h 0 (by simp)
  injection e with e
  injection e with e1 e2
  subst e1 e2
  simpa using c
/-- 's[1:]' of a row with a first element. -/
theorem run_rest {P : Program} {t e : TypeId} (ht : P.underlying t = some (.slice e)) (hs : ∀ W, (sizeOf e).run P W = .ok 1 W) (g o n m c : Nat) (hn : n = m + 1) (hc : n ≤ c) :
    ∃ o', (m = 0 ∨ o' = o + 1) ∧ ∀ W : World, (Instr.slice t (.slice (some ⟨g, o, none⟩) n c) (some (.int .i64 1)) none none).run P W = .ok (.slice (some ⟨g, o', none⟩) m (c - 1)) W := by
  subst hn
  have hb : ∀ W : World, (Instr.sliceBounds true (m + 1) c (some (.int .i64 1)) none none).run P W = .ok (1, m + 1, c) W := fun W => by
    simp [Instr.sliceBounds, Instr.sliceBound, asIntOf]
    omega
  by_cases h1 : c = 1
  · subst h1
    refine ⟨o, .inl (by omega), fun W => ?_⟩
    unfold Instr.slice
    simp [run_underlying ht, hb, hs]
  · refine ⟨o + 1, .inr rfl, fun W => ?_⟩
    unfold Instr.slice
    simp [run_underlying ht, hb, hs, h1]
    exact add_plain g o 1
end Go.Proofs.YthmllcpldgbbcaaGreatDoor
