/- What the model's functions that draw numbers out of a list return. -/
import Derived.Test.YthppmncndindiaaDoorDraw
namespace Go.Proofs.YthppmncndindiaaDoor
open Go.RowKit Go.Lib

set_option maxHeartbeats 400000 in
theorem d_pickint (c : Nat) (a : Option Addr) (len cap : Nat) (z : List Int) (b n : Nat) (zs : List Int) (lo hi : Int) (w : World) (H : CurAt 55 w c a len cap z) (hn : zs.length = n) (h0 : 0 < n) (h1 : n ≤ 100)
    (hb : w.heap[b]? = some (.cells (zs.map (Value.int .i64)).toArray 3 (0, 0))) (hbc : b ≠ c) (hz : ∀ x ∈ zs, lo ≤ x ∧ x ≤ hi) :
    Calls Tryd.prog 35 #[.pointer (some ⟨c, 0, none⟩), .slice (some ⟨b, 0, none⟩) n n] w (DrawInt 55 lo hi c a len cap z w) := by
  have HC := Lib.hid H
  have HB := Lib.hid hb
  have HN := Lib.hid hn
  have HZ := Lib.hid hz
  have HBC := Lib.hid hbc
  clear H hb hn hz hbc
  go_enter Tryd.func35, Tryd.ntmps35
  go_wp2_with fail
  refine (d_below c a len cap z n _ HC.out (by omega) (by omega)).mono ?_
  rintro e w1 ⟨x, x0, x1, rfl, H1, G1⟩
  obtain ⟨k, rfl⟩ := Int.eq_ofNat_of_zero_le x0
  have hk : k < zs.length := by rw [HN.out]; omega
  have hcell := cell_of_ints (w := w1) (b := b) (zs := zs) (t := 3) (by rw [G1.block b (by
    rcases Nat.lt_or_ge b w.heap.size with h | h
    · exact h
    · have := HB.out; rw [Array.getElem?_eq_none h] at this; cases this) (by intro e; injection e with e; exact HBC.out e)]; exact HB.out) k hk
  have hy := HZ.out zs[k] (List.getElem_mem hk)
  generalize zs[k] = y at hcell hy
  have K1 := Lib.hid H1; have L1 := Lib.hid G1; have HY := Lib.hid hy
  clear H1 G1 hy
  have hk0 : (0 : Int) ≤ (k : Int) := by omega
  have hk1 : (k : Int) < (n : Int) := by omega
  go_wp2
  go_ret
  exact ⟨y, HY.out.1, HY.out.2, rfl, K1.out, L1.out⟩

abbrev numsL : List Int := [-1, 0, 127, 128, 16383, 16384, 1000000000, 1000000001, 9223372036854775807, -9223372036854775808]

set_option maxHeartbeats 400000 in
theorem d_number (c : Nat) (a : Option Addr) (len cap : Nat) (z : List Int) (w : World) (H : CurAt 55 w c a len cap z) :
    Calls Tryd.prog 28 #[.pointer (some ⟨c, 0, none⟩)] w (DrawInt 55 (-9223372036854775808) 9223372036854775807 c a len cap z w) := by
  have HC := Lib.hid H
  clear H
  go_enter Tryd.func28, Tryd.ntmps28
  go_wp2_with fail
  refine (d_below c a len cap z 4 _ HC.out (by omega) (by omega)).mono ?_
  rintro e w1 ⟨x, x0, x1, rfl, H1, G1⟩
  have K1 := Lib.hid H1; have L1 := Lib.hid G1
  clear H1 G1
  by_cases hx0 : x = 0
  · subst hx0
    go_wp2_with fail
    refine (d_pickint c a len cap z w1.heap.size 10 numsL (-9223372036854775808) 9223372036854775807 _ (K1.out.alloc _) rfl (by omega) (by omega) (heap_alloc_new w1 _) (by have := K1.out.lt; omega) (by decide)).mono ?_
    rintro e w2 ⟨y, y0, y1, rfl, H2, G2⟩
    have K2 := Lib.hid H2; have L2 := Lib.hid G2
    clear H2 G2
    go_wp2
    go_ret
    exact ⟨y, y0, y1, rfl, K2.out, (L1.out.trans (grown_alloc' _ _ _)).trans L2.out⟩
  · have hx00 : (x == 0) = false := by simp [hx0]
    by_cases hx1 : x = 1
    · subst hx1
      go_wp2_with fail
      refine (d_below c a len cap z 1000000000 _ K1.out (by omega) (by omega)).mono ?_
      rintro e w2 ⟨y, y0, y1, rfl, H2, G2⟩
      have K2 := Lib.hid H2; have L2 := Lib.hid G2
      clear H2 G2
      go_wp2
      go_ret
      exact ⟨y, by omega, by omega, rfl, K2.out, L1.out.trans L2.out⟩
    · have hx11 : (x == 1) = false := by simp [hx1]
      go_wp2_with fail
      refine (d_below c a len cap z 400 _ K1.out (by omega) (by omega)).mono ?_
      rintro e w2 ⟨y, y0, y1, rfl, H2, G2⟩
      have K2 := Lib.hid H2; have L2 := Lib.hid G2
      clear H2 G2
      go_wp2
      go_ret
      exact ⟨y, by omega, by omega, rfl, K2.out, L1.out.trans L2.out⟩
end Go.Proofs.YthppmncndindiaaDoor
