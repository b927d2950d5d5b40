/- Spaces as arguments of a law, and what does not hang on where a space's parts lie. Nothing of the program. -/
import Derived.Test.YtljmkkodhnkemaaSpcPlain
namespace Go.Proofs.Ytljmkkodhnkemaa
open Go.RowKit Go.Lib Go.ChangeShapes Go.WideShapes Go.Deep

section
variable {H : Type} {enc : TypeId × Value → H} {P : Program} {w : World} {held : Bool}
theorem argInB_at {t e : TypeId} {v : Value} {n : Nat} {y : DataW H × List MemPlace} (ht : P.underlying t = some (.slice e)) (he : P.underlying e = some (.int .i64)) (hC : P.cellsOf e = 1)
    (h : DataW.trod enc P w 0 (fun _ => true) held n t [v] = some y) : ∃ (l : List Int) (a : Option Addr) (c : Nat), v = .slice a l.length c ∧ ArgIn w a l ∧ l.length ≤ maxLen ∧ ∀ e ∈ l, e ≤ 9223372036854775807 := by
  rcases open_ints ht he hC h with ⟨hcs, _⟩ | ⟨x, len, cap, zs, hcs, _, hl, hm, hz, _, hc, hwf⟩
  · injection hcs with hcs _
    exact ⟨[], none, 0, hcs, (fun k hk => absurd hk (by simp)), (by simp [maxLen]), fun e he => by simp at he⟩
  · injection hcs with hcs _
    simp at hz
    refine ⟨zs.take len, some x, cap, by rw [hcs]; simp; omega, fun k hk => ?_, by simp; omega, fun e he => (bounds_i64 (hwf e (List.mem_of_mem_take he))).2⟩
    have hk' : k < zs.length := by simp at hk; omega
    have hce := hc k hk'
    refine ⟨x, rfl, by have := World.block_lt_of_cell? w _ hce; rw [addr_block] at this; exact this, ?_⟩
    rw [hce]
    simp [List.getD, hk']
end
/-- Images without addresses. -/
def canI (l : List (ByteArray × List SyL)) : List ImA := l.map fun p => ⟨p.1, p.2, none, 0⟩
theorem canI_len (X : List ImA) : (canI (psI X)).length = X.length := by unfold canI psI; simp
theorem spB_can (X : List ImA) (B E : List Int) : spB X B E = spB (canI (psI X)) B E := by
  match X with
  | [] => rfl
  | [_] => rfl
  | [x, y] =>
    match B with
    | [] => rfl
    | [_] => rfl
    | [b0, b1] => rfl
    | _ :: _ :: _ :: _ => rfl
  | _ :: _ :: _ :: _ => unfold spB; rw [canI_len]; rfl
theorem slocZ_can (X : List ImA) (B E : List Int) (a : Int) : slocZ X B E a = slocZ (canI (psI X)) B E a := by
  cases h : spB X B E with
  | false => rw [slocZ_no h, slocZ_no (by rw [← spB_can]; exact h)]
  | true =>
    obtain ⟨x0, x1, b0, b1, rfl, rfl, _⟩ := spB_is h
    rw [slocZ_yes h, show canI (psI [x0, x1]) = [⟨x0.s, x0.l, none, 0⟩, ⟨x1.s, x1.l, none, 0⟩] from rfl, slocZ_yes (by rw [spB_can] at h; exact h)]
    rfl
theorem fetZ_can (X : List ImA) (B E : List Int) (a : Int) : fetZ X B E a = fetZ (canI (psI X)) B E a := by
  cases h : spB X B E with
  | false => rw [fetZ_no h, fetZ_no (by rw [← spB_can]; exact h)]
  | true =>
    obtain ⟨x0, x1, b0, b1, rfl, rfl, _⟩ := spB_is h
    rw [fetZ_yes h, show canI (psI [x0, x1]) = [⟨x0.s, x0.l, none, 0⟩, ⟨x1.s, x1.l, none, 0⟩] from rfl, fetZ_yes (by rw [spB_can] at h; exact h)]
    have e : spA ⟨x0.s, x0.l, none, 0⟩ ⟨x1.s, x1.l, none, 0⟩ b0 b1 a = spA x0 x1 b0 b1 a := rfl
    rw [e]
    by_cases hi : (spA x0 x1 b0 b1 a).1 = 0
    · rw [if_pos hi, if_pos hi]
    · rw [if_neg hi, if_neg hi]
theorem funZ_can (X : List ImA) (B E : List Int) (a : Int) : funZ X B E a = funZ (canI (psI X)) B E a := by
  cases h : spB X B E with
  | false => rw [funZ_no h, funZ_no (by rw [← spB_can]; exact h)]
  | true =>
    obtain ⟨x0, x1, b0, b1, rfl, rfl, _⟩ := spB_is h
    rw [funZ_yes h, show canI (psI [x0, x1]) = [⟨x0.s, x0.l, none, 0⟩, ⟨x1.s, x1.l, none, 0⟩] from rfl, funZ_yes (by rw [spB_can] at h; exact h)]
    rfl
end Go.Proofs.Ytljmkkodhnkemaa
