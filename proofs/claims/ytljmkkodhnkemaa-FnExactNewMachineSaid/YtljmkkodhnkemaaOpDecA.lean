/- DecodeOp, the model's, at any index. -/
import Derived.Test.YtljmkkodhnkemaaOpDecS
namespace Go.Proofs.Ytljmkkodhnkemaa
open Go.RowKit Go.Lib

theorem at_cases (s : ByteArray) (a : Int) : (a < 0 ∨ (s.size : Int) ≤ a) ∨ ∃ i : Nat, i < s.size ∧ a = (i : Int) := by
  by_cases h : a < 0 ∨ (s.size : Int) ≤ a
  · exact .inl h
  · exact .inr ⟨a.toNat, by omega, by omega⟩
theorem s_dec7 (s : ByteArray) (a : Int) (w : World) (hm : s.size ≤ 4294967296) :
    Calls Try.prog 55 #[.string s, .int .i64 a] w fun e w' => e = .returned (decV (decZ s.data.toList a)) ∧ Below w.heap.size w w' := by
  rcases at_cases s a with h | ⟨i, hi, rfl⟩
  · exact s_dec_out s a w (by unfold maxLen; omega) h
  · exact s_dec_in s i w hm hi
theorem decV_shape (o : Option (OpL × Nat)) : ∃ (c a n : Int) (b : Bool), decV o = .tuple #[.agg #[.int .i64 c, .int .i64 a], .int .i64 n, .bool b] := by
  cases o with
  | none => exact ⟨_, _, _, _, rfl⟩
  | some y => exact ⟨_, _, _, _, rfl⟩
end Go.Proofs.Ytljmkkodhnkemaa
