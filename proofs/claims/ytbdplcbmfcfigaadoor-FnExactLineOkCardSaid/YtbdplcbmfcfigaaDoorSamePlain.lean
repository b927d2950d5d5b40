/- Equality of rows, as Bools. Nothing of the program. -/
import Derived.Test.YtbdplcbmfcfigaaDoorLinePlain
namespace Go.Proofs.YtbdplcbmfcfigaaDoor
open Go.RowKit Go.Lib

def textsB : List ByteArray → List ByteArray → Bool
  | [], [] => true
  | a :: r, b :: q => decide (a = b) && textsB r q
  | _, _ => false
theorem textsB_iff : ∀ a b : List ByteArray, textsB a b = true ↔ a = b
  | [], [] => by simp [textsB]
  | a :: r, b :: q => by simp [textsB, textsB_iff r q]
  | [], _ :: _ => by simp [textsB]
  | _ :: _, [] => by simp [textsB]
theorem textsB_ne (a b : List ByteArray) (h : a ≠ b) : textsB a b = false := by
  cases hb : textsB a b with
  | false => rfl
  | true => exact absurd ((textsB_iff a b).1 hb) h
theorem textsB_len (a b : List ByteArray) (h : ¬ a.length = b.length) : textsB a b = false := textsB_ne a b (fun e => h (by rw [e]))
theorem textsB_no (a b : List ByteArray) (k : Nat) (ha : k < a.length) (hb : k < b.length) (h : a[k] ≠ b[k]) : textsB a b = false := textsB_ne a b (fun e => h (by simp only [e]))
def tokEq (a b : TokL) : Bool := decide (a.kind = b.kind) && (decide (a.num = b.num) && decide (a.name = b.name))
theorem tokEq_iff (a b : TokL) : tokEq a b = true ↔ a = b := by
  obtain ⟨k, n, s⟩ := a
  obtain ⟨k', n', s'⟩ := b
  simp [tokEq]
def toksB : List TokL → List TokL → Bool
  | [], [] => true
  | a :: r, b :: q => tokEq a b && toksB r q
  | _, _ => false
theorem toksB_iff : ∀ a b : List TokL, toksB a b = true ↔ a = b
  | [], [] => by simp [toksB]
  | a :: r, b :: q => by simp [toksB, toksB_iff r q, tokEq_iff]
  | [], _ :: _ => by simp [toksB]
  | _ :: _, [] => by simp [toksB]
theorem toksB_ne (a b : List TokL) (h : a ≠ b) : toksB a b = false := by
  cases hb : toksB a b with
  | false => rfl
  | true => exact absurd ((toksB_iff a b).1 hb) h
theorem toksB_len (a b : List TokL) (h : ¬ a.length = b.length) : toksB a b = false := toksB_ne a b (fun e => h (by rw [e]))
theorem toksB_no (a b : List TokL) (k : Nat) (ha : k < a.length) (hb : k < b.length) (h : a[k] ≠ b[k]) : toksB a b = false := toksB_ne a b (fun e => h (by simp only [e]))
theorem same_next {α : Type} (a b : List α) (k : Nat) (ha : k < a.length) (hb : k < b.length) (h : a.take k = b.take k) (hk : a[k] = b[k]) : a.take (k + 1) = b.take (k + 1) := by
  rw [List.take_succ_eq_append_getElem ha, List.take_succ_eq_append_getElem hb, h, hk]
theorem str_ne (a b : ByteArray) (h : a ≠ b) : (a.toList == b.toList) = false := by
  rw [beq_eq_false_iff_ne]
  intro e
  exact h (bl_eq (by rw [ByteArray.toList_eq, ByteArray.toList_eq] at e; exact e))
theorem str_ne' (a b : ByteArray) (h : a ≠ b) : (a.toList != b.toList) = true := by simp only [bne, str_ne a b h]; rfl
/-- Two lines are equal in all fields. -/
def sameLB (p q : PLine) : Bool := decide (p.kind = q.kind) && (decide (p.name = q.name) && (textsB p.args q.args && toksB p.expr q.expr))
theorem sameLB_iff (p q : PLine) : sameLB p q = true ↔ p = q := by
  obtain ⟨k, n, a, e⟩ := p
  obtain ⟨k', n', a', e'⟩ := q
  simp [sameLB, textsB_iff, toksB_iff]
end Go.Proofs.YtbdplcbmfcfigaaDoor
