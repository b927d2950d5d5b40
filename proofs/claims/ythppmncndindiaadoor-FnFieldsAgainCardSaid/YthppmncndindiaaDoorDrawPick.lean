/- What the model's function that picks a text out of a list returns. -/
import Derived.Test.YthppmncndindiaaDoorDrawText
namespace Go.Proofs.YthppmncndindiaaDoor
open Go.RowKit Go.Lib

theorem cell_of_strs {w : World} {b : Nat} {zs : List ByteArray} {t : TypeId} (h : w.heap[b]? = some (.cells (zs.map Value.string).toArray t (0, 0))) (j : Nat) (hj : j < zs.length) :
    w.cell? ⟨b, j, none⟩ = some (.string zs[j]) := by
  rw [cell_of_row w b j _ _ _ h]
  simp [hj]

set_option maxHeartbeats 400000 in
theorem d_pick (c : Nat) (a : Option Addr) (len cap : Nat) (z : List Int) (b n : Nat) (zs : List ByteArray) (m : Nat) (w : World) (H : CurAt 55 w c a len cap z) (hn : zs.length = n) (h0 : 0 < n) (h1 : n ≤ 1000)
    (hb : w.heap[b]? = some (.cells (zs.map Value.string).toArray 9 (0, 0))) (hbc : b ≠ c) (hz : ∀ x ∈ zs, x.size ≤ m) :
    Calls Tryd.prog 30 #[.pointer (some ⟨c, 0, none⟩), .slice (some ⟨b, 0, none⟩) n n] w (DrawStr 55 m c a len cap z w) := by
  have HC := Lib.hid H
  have HB := Lib.hid hb
  have HN := Lib.hid hn
  have HZ := Lib.hid hz
  have HBC := Lib.hid hbc
  clear H hb hn hz hbc
  go_enter Tryd.func30, Tryd.ntmps30
  go_wp2_with fail
  refine (d_below c a len cap z n _ HC.out (by omega) (by omega)).mono ?_
  rintro e w1 ⟨x, x0, x1, rfl, H1, G1⟩
  obtain ⟨k, rfl⟩ := Int.eq_ofNat_of_zero_le x0
  have hk : k < zs.length := by rw [HN.out]; omega
  have hcell := cell_of_strs (w := w1) (b := b) (zs := zs) (t := 9) (by rw [G1.block b (by
    rcases Nat.lt_or_ge b w.heap.size with h | h
    · exact h
    · have := HB.out; rw [Array.getElem?_eq_none h] at this; cases this) (by intro e; injection e with e; exact HBC.out e)]; exact HB.out) k hk
  have hy := HZ.out zs[k] (List.getElem_mem hk)
  generalize zs[k] = y at hcell hy
  have K1 := Lib.hid H1; have L1 := Lib.hid G1; have HY := Lib.hid hy
  clear H1 G1 hy
  have hk0 : (0 : Int) ≤ (k : Int) := by omega
  have hk1 : (k : Int) < (n : Int) := by omega
  go_wp2
  go_ret
  exact ⟨y, rfl, HY.out, K1.out, L1.out⟩
end Go.Proofs.YthppmncndindiaaDoor
