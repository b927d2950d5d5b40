/- Plain facts on the fields of a line. Nothing of the program. -/
import Derived.Test.YtbdplcbmfcfigaaDoorTextPlain
namespace Go.Proofs.YtbdplcbmfcfigaaDoor
open Go.RowKit Go.Lib

def okB (c : UInt8) : Bool := decide (32 ≤ c.toNat) && decide (c.toNat ≤ 126)
/-- The run from b to i, if it is not empty. -/
def cutF (s : ByteArray) (b i : Nat) : List ByteArray := if b < i then [s.extract b i] else []
/-- The fields that end before byte i, and where the next one begins; behind the last byte stands a space. -/
def sp (s : ByteArray) : Nat → List ByteArray × Nat
  | 0 => ([], 0)
  | i + 1 => if (s.data.toList[i]?).getD 32 = 32 then ((sp s i).1 ++ cutF s (sp s i).2 i, i + 1) else sp s i
def spL (s : ByteArray) : List ByteArray := (sp s (s.size + 1)).1
def spR (s : ByteArray) : List ByteArray × Bool := if s.size ≤ 600 ∧ s.data.toList.all okB = true ∧ (spL s).length ≤ 24 then (spL s, true) else ([], false)

theorem at_get (s : ByteArray) (i : Nat) (h : i < s.size) : s.data.toList[i]? = some s[i] := by rw [List.getElem?_eq_getElem (by simpa using h)]; rfl
theorem sp_space (s : ByteArray) (i : Nat) (h : i < s.size) (hc : s[i].toNat = 32) : sp s (i + 1) = ((sp s i).1 ++ cutF s (sp s i).2 i, i + 1) := by
  rw [sp, at_get s i h, if_pos (by show s[i] = 32; exact UInt8.toNat_inj.1 hc)]
theorem sp_other (s : ByteArray) (i : Nat) (h : i < s.size) (hc : s[i].toNat ≠ 32) : sp s (i + 1) = sp s i := by
  rw [sp, at_get s i h, if_neg (by show ¬ s[i] = 32; intro e; rw [e] at hc; exact hc rfl)]
theorem sp_last (s : ByteArray) : sp s (s.size + 1) = ((sp s s.size).1 ++ cutF s (sp s s.size).2 s.size, s.size + 1) := by
  rw [sp, if_pos (by simp)]
theorem sp_le (s : ByteArray) (i : Nat) : (sp s i).2 ≤ i ∧ (sp s i).1.length ≤ i := by
  induction i with
  | zero => simp [sp]
  | succ i ih =>
    rw [sp]
    split
    · refine ⟨Nat.le_refl _, ?_⟩
      simp only [List.length_append]
      have : (cutF s (sp s i).2 i).length ≤ 1 := by unfold cutF; split <;> simp
      omega
    · exact ⟨by omega, by omega⟩
theorem okB_iff (c : UInt8) : okB c = true ↔ 32 ≤ c.toNat ∧ c.toNat ≤ 126 := by simp [okB]
theorem ok_next (s : ByteArray) (k : Nat) (h : k < s.size) (ha : (s.data.toList.take k).all okB = true) (h1 : 32 ≤ s[k].toNat) (h2 : s[k].toNat ≤ 126) : (s.data.toList.take (k + 1)).all okB = true := by
  rw [take_snoc s k h, List.all_append, ha]
  simp [okB, h1, h2]
theorem spR_long (s : ByteArray) (h : 600 < s.size) : spR s = ([], false) := by unfold spR; rw [if_neg (by omega)]
theorem spR_bad (s : ByteArray) (k : Nat) (h : k < s.size) (hb : s[k].toNat < 32 ∨ 126 < s[k].toNat) : spR s = ([], false) := by
  unfold spR
  rw [if_neg]
  rintro ⟨_, ha, _⟩
  have hm : s[k] ∈ s.data.toList := by
    have e : s.data.toList[k]'(by simpa using h) = s[k] := rfl
    exact e ▸ List.getElem_mem _
  have := (okB_iff _).1 (List.all_eq_true.1 ha _ hm)
  omega
theorem spR_many (s : ByteArray) (h : 24 < (spL s).length) : spR s = ([], false) := by unfold spR; rw [if_neg (by omega)]
theorem spR_yes (s : ByteArray) (h : s.size ≤ 600) (ha : s.data.toList.all okB = true) (hl : (spL s).length ≤ 24) : spR s = (spL s, true) := by unfold spR; rw [if_pos ⟨h, ha, hl⟩]

/-- A list of strings, as a row's cells. -/
def strV (l : List ByteArray) : List Value := l.map Value.string
theorem strV_length (l : List ByteArray) : (strV l).length = l.length := by simp [strV]
theorem strV_append (a b : List ByteArray) : strV (a ++ b) = strV a ++ strV b := by simp [strV]
theorem owns_strs {B e m : Nat} {w : World} {v : Value} {xs : List Value} {l : List ByteArray} (h : w.ownsRow B e 1 v m xs) (hl : strV l = xs) : w.ownsRow B e 1 v l.length (strV l) := by
  have hm : m = l.length := by have := h.1; rw [← hl, strV_length] at this; omega
  rw [← hm, hl]; exact h

theorem owns_shape {B T n : Nat} {w : World} {v : Value} {xs : List Value} (h : w.ownsRow B T 1 v n xs) : ∃ a c, v = .slice a n c := by
  rcases h.2 with ⟨rfl, rfl⟩ | ⟨g, cap, cur, rfl, _⟩
  · exact ⟨_, _, rfl⟩
  · exact ⟨_, _, rfl⟩
theorem owns_below {B T n : Nat} {w w' : World} {v : Value} {xs : List Value} (h : w.ownsRow B T 1 v n xs) (hb : Below w.heap.size w w') : w'.ownsRow B T 1 v n xs :=
  h.kept (row := none) ⟨hb.os, hb.tape, hb.output, hb.size, fun j hj _ => hb.block j hj⟩ (by
    cases v.ownBlock with
    | none => exact .inl rfl
    | some x => exact .inr (by simp))
theorem spR_len (s : ByteArray) : (spR s).1.length ≤ 24 := by
  unfold spR
  split
  · rename_i h; exact h.2.2
  · simp
/-- What a function returns that makes a list of strings: the list, in a row of its own from block B on. -/
def Strs (T B : Nat) (l : List ByteArray) (ok : Bool) (w : World) (e : Ending) (w' : World) : Prop :=
  ∃ v, e = .returned (.tuple #[v, .bool ok]) ∧ w'.ownsRow B T 1 v l.length (strV l) ∧ Below w.heap.size w w'
/-- What was appended to. -/
def AppS (T B : Nat) (l : List ByteArray) (row : Option Nat) (w : World) (e : Ending) (w' : World) : Prop :=
  ∃ v, e = .returned v ∧ w'.ownsRow B T 1 v l.length (strV l) ∧ w.grownBy w' row
/-- One field more, if it is not empty. -/
def oneF (f : ByteArray) : List ByteArray := if f.size = 0 then [] else [f]
theorem oneF_cut (s : ByteArray) (b i : Nat) (h : b ≤ i) (hi : i ≤ s.size) : oneF (s.extract b i) = cutF s b i := by
  unfold oneF cutF
  have : (s.extract b i).size = i - b := by simp [ByteArray.size_extract]; omega
  rw [this]
  by_cases hb : b < i
  · rw [if_neg (by omega), if_pos hb]
  · rw [if_pos (by omega), if_neg hb]
end Go.Proofs.YtbdplcbmfcfigaaDoor
