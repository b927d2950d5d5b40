/- Plain facts: Plain facts on the marks that the laws write into lists of strings; The marks that the laws write into rows of tokens. Nothing of the program. -/
import Derived.Test.YtbdplcbmfcfigaaGreatDoorPlainA
/-! Plain facts on the marks that the laws write into lists of strings. Nothing of the program -/
namespace Go.Proofs.YtbdplcbmfcfigaaGreatDoor
open Go.RowKit Go.Lib

/-- The mark of the number k. -/
def mkT (k : Nat) : ByteArray := ⟨(109 :: decDigits k).toArray⟩
/-- The marks from k on, n of them. -/
def mks (k n : Nat) : List ByteArray := (List.range n).map fun j => mkT (k + j)
theorem mks_length (k n : Nat) : (mks k n).length = n := by simp [mks]
theorem mks_get (k n j : Nat) (h : j < n) : (mks k n)[j]? = some (mkT (k + j)) := by simp [mks, h]

theorem strV_set (l : List ByteArray) (k : Nat) (x : ByteArray) : (strV l).set k (.string x) = strV (l.set k x) := by simp [strV, List.map_set]
/-- The first k of a list's elements are marks, the others are what they were. -/
def half (m k : Nat) (l : List ByteArray) : List ByteArray := mks m k ++ l.drop k
theorem half_length (m k : Nat) (l : List ByteArray) (h : k ≤ l.length) : (half m k l).length = l.length := by simp [half, mks_length]; omega
theorem half_zero (m : Nat) (l : List ByteArray) : half m 0 l = l := by simp [half, mks]
theorem half_all (m : Nat) (l : List ByteArray) : half m l.length l = mks m l.length := by simp [half]
theorem half_set (m k : Nat) (l : List ByteArray) (h : k < l.length) : (half m k l).set k (mkT (m + k)) = half m (k + 1) l := by
  unfold half
  have e : mks m (k + 1) = mks m k ++ [mkT (m + k)] := by simp [mks, List.range_succ]
  rw [e, List.set_append_right _ _ (by rw [mks_length]; exact Nat.le_refl _), mks_length, Nat.sub_self, List.append_assoc]
  congr 1
  rw [List.drop_eq_getElem_cons h]
  rfl
end Go.Proofs.YtbdplcbmfcfigaaGreatDoor

/-! The marks that the laws write into rows of tokens. Nothing of the program -/
namespace Go.Proofs.YtbdplcbmfcfigaaGreatDoor
open Go.RowKit Go.Lib

def mkTok (m j : Nat) : TokL := ⟨((m + 3 * j : Nat) : Int), ((m + 3 * j + 1 : Nat) : Int), mkT (m + 3 * j + 2)⟩
def mkTs (m n : Nat) : List TokL := (List.range n).map (mkTok m)
theorem mkTs_length (m n : Nat) : (mkTs m n).length = n := by simp [mkTs]
theorem mkTs_get (m n j : Nat) (h : j < (mkTs m n).length) : (mkTs m n)[j] = mkTok m j := by simp [mkTs]
end Go.Proofs.YtbdplcbmfcfigaaGreatDoor
