/- Plain facts on decoding hexadecimal text. Nothing of the program. -/
import Derived.Test.YthppmncndindiaaDoorTextPlain
namespace Go.Proofs.YthppmncndindiaaDoor
open Go.RowKit Go.Lib

/-- The number of a figure; -1 if it is none. -/
def hvI (n : Nat) : Int := if 48 ≤ n ∧ n ≤ 57 then (n : Int) - 48 else if 97 ≤ n ∧ n ≤ 102 then (n : Int) - 87 else -1
def hvOk (c : UInt8) : Bool := decide (0 ≤ hvI c.toNat)
def pairB (a b : UInt8) : UInt8 := UInt8.ofNat (16 * hvI a.toNat + hvI b.toNat).toNat
def decL : List UInt8 → List UInt8
  | a :: b :: r => pairB a b :: decL r
  | _ => []
def decR (l : List UInt8) : List UInt8 × Bool := if l.length % 2 = 0 ∧ l.length ≤ 40000 ∧ l.all hvOk = true then (decL l, true) else ([], false)

theorem hvI_le (n : Nat) : -1 ≤ hvI n ∧ hvI n ≤ 15 := by unfold hvI; split <;> (try split) <;> omega
theorem hvOk_iff (c : UInt8) : hvOk c = true ↔ 0 ≤ hvI c.toNat := by simp [hvOk]
theorem pairB_toNat (a b : UInt8) (ha : 0 ≤ hvI a.toNat) (hb : 0 ≤ hvI b.toNat) : ((pairB a b).toNat : Int) = 16 * hvI a.toNat + hvI b.toNat := by
  have h1 := hvI_le a.toNat; have h2 := hvI_le b.toNat
  unfold pairB
  rw [UInt8.toNat_ofNat']
  omega
theorem decL_append (l : List UInt8) (a b : UInt8) (h : l.length % 2 = 0) : decL (l ++ [a, b]) = decL l ++ [pairB a b] := by
  induction l using decL.induct with
  | case1 x y r ih => simp [decL]; exact ih (by simp at h; omega)
  | case2 l hl =>
    match l, hl, h with
    | [], _, _ => rfl
    | [x], _, h => simp at h
    | x :: y :: r, hl, _ => exact absurd rfl (hl x y r)
theorem decL_length (l : List UInt8) : 2 * (decL l).length ≤ l.length := by
  induction l using decL.induct with
  | case1 x y r ih => simp [decL]; omega
  | case2 l hl =>
    match l, hl with
    | [], _ => simp [decL]
    | [x], _ => simp [decL]
    | x :: y :: r, hl => exact absurd rfl (hl x y r)
theorem take_two (s : ByteArray) (k : Nat) (h : k + 1 < s.size) : s.data.toList.take (k + 2) = s.data.toList.take k ++ [s[k], s[k + 1]] := by
  rw [take_snoc s (k + 1) h, take_snoc s k (by omega)]; simp
theorem decR_yes (l : List UInt8) (h1 : l.length % 2 = 0) (h2 : l.length ≤ 40000) (h : l.all hvOk = true) : decR l = (decL l, true) := by unfold decR; rw [if_pos ⟨h1, h2, h⟩]
theorem decR_no (l : List UInt8) (h : ¬ (l.length % 2 = 0 ∧ l.length ≤ 40000)) : decR l = ([], false) := by unfold decR; rw [if_neg (fun k => h ⟨k.1, k.2.1⟩)]
theorem decR_bad (s : ByteArray) (k : Nat) (hk : k < s.size) (h : hvI s[k].toNat < 0) : decR s.data.toList = ([], false) := by
  unfold decR
  rw [if_neg]
  rintro ⟨_, _, hall⟩
  have hm : s[k] ∈ s.data.toList := by
    have e : s.data.toList[k]'(by simpa using hk) = s[k] := rfl
    exact e ▸ List.getElem_mem _
  have := (hvOk_iff _).1 (List.all_eq_true.1 hall _ hm)
  omega
theorem or_nib_fin : ∀ a b : Fin 16, bits .or .u8 ((a.val : Int) * 16) (b.val : Int) = 16 * (a.val : Int) + (b.val : Int) := by decide +kernel
theorem or_nib (a b : Int) (h0 : 0 ≤ a) (h1 : a ≤ 15) (h2 : 0 ≤ b) (h3 : b ≤ 15) : bits .or .u8 (a * 16) b = 16 * a + b := by
  have h := or_nib_fin ⟨a.toNat, by omega⟩ ⟨b.toNat, by omega⟩
  simp only [Int.toNat_of_nonneg h0, Int.toNat_of_nonneg h2] at h
  exact h
theorem ret_hv {k : IntKind} {a b : Int} (h : a = b) : Ending.returned (.tuple #[.int k a, .bool true]) = .returned (.tuple #[.int k b, .bool true]) := by rw [h]
theorem ret_dec {l a : List UInt8} {b : Bool} (h : decR l = (a, b)) : Ending.returned (.tuple #[.string ⟨a.toArray⟩, .bool b]) = .returned (.tuple #[.string ⟨(decR l).1.toArray⟩, .bool (decR l).2]) := by rw [h]
end Go.Proofs.YthppmncndindiaaDoor
