/- What the model's function that draws a number out of a list returns. -/
import Derived.Test.YtcffmdmdojkggaaDoorDraw
namespace Go.Proofs.YtcffmdmdojkggaaDoor
open Go.RowKit Go.Lib

set_option maxHeartbeats 400000 in
theorem d_pickint (c : Nat) (a : Option Addr) (len cap : Nat) (z : List Int) (b n : Nat) (zs : List Int) (lo hi : Int) (w : World) (H : CurAt 65 w c a len cap z) (hn : zs.length = n) (h0 : 0 < n) (h1 : n ≤ 100)
    (hb : w.heap[b]? = some (.cells (zs.map (Value.int .i64)).toArray 3 (0, 0))) (hbc : b ≠ c) (hz : ∀ x ∈ zs, lo ≤ x ∧ x ≤ hi) :
    Calls Tryd.prog 66 #[.pointer (some ⟨c, 0, none⟩), .slice (some ⟨b, 0, none⟩) n n] w (DrawInt 65 lo hi c a len cap z w) := by
  have HC := Lib.hid H
  have HB := Lib.hid hb
  have HN := Lib.hid hn
  have HZ := Lib.hid hz
  have HBC := Lib.hid hbc
  clear H hb hn hz hbc
  go_enter Tryd.func66, Tryd.ntmps66
  go_wp2_with fail
  refine (d_below c a len cap z n _ HC.out (by omega) (by omega)).mono ?_
  rintro e w1 ⟨x, x0, x1, rfl, H1, G1⟩
  obtain ⟨k, rfl⟩ := Int.eq_ofNat_of_zero_le x0
  have hk : k < zs.length := by rw [HN.out]; omega
  have hcell := cell_of_ints (w := w1) (b := b) (zs := zs) (t := 3) (by rw [G1.block b (by
    rcases Nat.lt_or_ge b w.heap.size with h | h
    · exact h
    · have := HB.out; rw [Array.getElem?_eq_none h] at this; cases this) (by intro e; injection e with e; exact HBC.out e)]; exact HB.out) k hk
  have hy := HZ.out zs[k] (List.getElem_mem hk)
  generalize zs[k] = y at hcell hy
  have K1 := Lib.hid H1; have L1 := Lib.hid G1; have HY := Lib.hid hy
  clear H1 G1 hy
  have hk0 : (0 : Int) ≤ (k : Int) := by omega
  have hk1 : (k : Int) < (n : Int) := by omega
  go_wp2
  go_ret
  exact ⟨y, HY.out.1, HY.out.2, rfl, K1.out, L1.out⟩

end Go.Proofs.YtcffmdmdojkggaaDoor
