/- Membership in a row of texts. Nothing of the program. -/
import Derived.Test.YtbdplcbmfcfigaaDoorSamePlain
import Derived.Test.YtbdplcbmfcfigaaDoorReadPlain
namespace Go.Proofs.YtbdplcbmfcfigaaDoor
open Go.RowKit Go.Lib

def memB (l : List ByteArray) (x : ByteArray) : Bool := l.any fun y => decide (y = x)
theorem memB_iff (l : List ByteArray) (x : ByteArray) : memB l x = true ↔ x ∈ l := by simp [memB]
theorem memB_no (l : List ByteArray) (x : ByteArray) (h : x ∉ l) : memB l x = false := by
  cases hb : memB l x with
  | false => rfl
  | true => exact absurd ((memB_iff l x).1 hb) h
theorem not_next (l : List ByteArray) (x : ByteArray) (k : Nat) (hk : k < l.length) (h : x ∉ l.take k) (hx : x ≠ l[k]) : x ∉ l.take (k + 1) := by
  rw [List.take_succ_eq_append_getElem hk]
  intro hm
  rcases List.mem_append.1 hm with hm | hm
  · exact h hm
  · rw [List.mem_singleton] at hm; exact hx hm

theorem ReadS.take {w : World} {a : Option Addr} {l : List ByteArray} (h : ReadS w a l) (k : Nat) : ReadS w a (l.take k) := by
  intro j hj
  have hj' : j < l.length := by rw [List.length_take] at hj; omega
  obtain ⟨g, e, c⟩ := h j hj'
  exact ⟨g, e, by rw [List.getElem_take]; exact c⟩

theorem ReadS.below {w w' : World} {a : Option Addr} {l : List ByteArray} (h : ReadS w a l) (hb : Below w.heap.size w w') : ReadS w' a l := by
  intro j hj
  obtain ⟨g, e, c⟩ := h j hj
  have hg := World.block_lt_of_cell? w _ c
  exact ⟨g, e, (hb.cell (p := ⟨g, j, none⟩) hg).trans c⟩
end Go.Proofs.YtbdplcbmfcfigaaDoor
