/- The walk of the law on compiling without replaced calls. -/
import Derived.Test.YtaplbefdijcceaaGreatDoorI03
import Derived.Test.YtaplbefdijcceaaGreatDoorI37
import Derived.Test.YtaplbefdijcceaaGreatDoorI42
import Derived.Test.YtaplbefdijcceaaGreatDoorI36
import Derived.Test.YtaplbefdijcceaaGreatDoorI05
import Derived.Test.YtaplbefdijcceaaGreatDoorI10
namespace Go.Proofs.YtaplbefdijcceaaGreatDoor.fnNoInline
open Go.RowKit Go.Lib
def ReadIt (w : World) (a : Option Addr) (L : List ItL) : Prop :=
  ∀ j (h : j < L.length), ∃ g xa xc, a = some ⟨g, 0, none⟩ ∧ g < w.heap.size ∧ w.cell? ⟨g, j * 7, none⟩ = some (.int .i64 L[j].code) ∧ w.cell? ⟨g, j * 7 + 1, none⟩ = some (.int .i64 L[j].arg) ∧ w.cell? ⟨g, j * 7 + 2, none⟩ = some (.int .i64 (L[j].line : Int)) ∧ w.cell? ⟨g, j * 7 + 3, none⟩ = some (.bool L[j].start) ∧ w.cell? ⟨g, j * 7 + 4, none⟩ = some (.slice xa L[j].chain.length xc)
theorem readIt_of {B c : Nat} {w : World} {a : Option Addr} {X : List ItW} {L : List ItL} (h : w.ownsRow B 37 7 (.slice a X.length c) X.length (itV X)) (hL : X.map (·.it) = L) (hm : MadeI 3 B w (chL X)) : ReadIt w a L := by
  subst hL
  intro j hj
  have hj' : j < X.length := by simpa using hj
  rcases h.2 with ⟨he, h0⟩ | ⟨g, cap, cur, he, hB, hg, _⟩
  · omega
  · have ha : a = some ⟨g, 0, none⟩ := by injection he
    subst ha
    have hlt : g < w.heap.size := by
      rcases Nat.lt_or_ge g w.heap.size with h | h
      · exact h
      · rw [Array.getElem?_eq_none h] at hg; cases hg
    have hch := hm.1 ⟨natI X[j].it.chain, X[j].v⟩ (mem_chL.2 ⟨X[j], List.getElem_mem hj', rfl⟩)
    obtain ⟨xa, xc, e⟩ := own_sh hch
    have e' : X[j].v = .slice xa X[j].it.chain.length xc := by rw [← natI_length X[j].it.chain]; exact e
    have hl : (itV X).length = X.length * 7 := itV_length X
    have key : ∀ i, i < 7 → w.cell? ⟨g, j * 7 + i, none⟩ = (itC X[j])[i]? := fun i hi => by rw [h.cellAt _ (by omega)]; exact itV_at X j hj' i hi
    simp only [List.getElem_map]
    exact ⟨g, xa, xc, rfl, hlt, key 0 (by omega), key 1 (by omega), key 2 (by omega), key 3 (by omega), by rw [key 4 (by omega), ← e']; rfl⟩
end Go.Proofs.YtaplbefdijcceaaGreatDoor.fnNoInline
