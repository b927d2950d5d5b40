/- The laws' own functions on rows of symbols: the size, and the program's row made of it. -/
import Derived.Test.YtcflojdkaddemabSymLaw
import Derived.Test.YtcflojdkaddemabImgPlain
import Derived.Laws.MakeOwn
import Derived.Deep.QuietTactic
import Derived.BigQuiet
namespace Go.Proofs.Ytcflojdkaddemab
open Go.RowKit Go.Lib

/-- The measure that the laws take: -1, or all is small and what is left. -/
def SzSy (l : List SyL) (left : Int) (w : World) (e : Ending) (w' : World) : Prop :=
  ∃ r : Int, e = .returned (.int .i64 r) ∧ Below w.heap.size w w' ∧ (r = -1 ∨ (0 ≤ r ∧ r + ((l.length : Int) + (sumSy l : Int)) ≤ left))

set_option maxHeartbeats 1000000 in
theorem l_szSymbolS (a : Option Addr) (cap : Nat) (l : List SyL) (left : Int) (w : World) (hm : l.length ≤ maxLen) (ha : ArgSy w a l) (h0 : 0 ≤ left) (h1 : left ≤ 1048576) :
    Calls Try.prog 42 #[.slice a l.length cap, .int .i64 left] w (SzSy l left w) := by
  have HA := Lib.hid ha
  clear ha
  unfold maxLen at hm
  by_cases hbig : left < (l.length : Int)
  · have hd : decide (left - (l.length : Int) < 0) = true := by simp; omega
    go_enter Try.func42, Try.ntmps42
    go_wp2
    all_goals go_ret
    all_goals exact ⟨-1, rfl, Below.refl _ _, .inl rfl⟩
  have hd : decide (left - (l.length : Int) < 0) = false := by simp; omega
  have g0 : 0 ≤ left - (l.length : Int) := by omega
  go_enter Try.func42, Try.ntmps42
  go_wp2_with fail
  clear hd
  go_loopw [1, 5] (fun x i wr => ∃ k : Nat, k ≤ l.length ∧ i = .int .i64 (k : Int) ∧ x = .int .i64 (left - (l.length : Int) - (sumSy (l.take k) : Int)) ∧ (l.length : Int) + (sumSy (l.take k) : Int) ≤ left ∧ Below w.heap.size w wr) (fun _ i _ => l.length - (intOf i).toNat)
  case atStart => exact ⟨0, Nat.zero_le _, rfl, by simp [sumSy], by simp [sumSy]; omega, Below.refl _ _⟩
  case round =>
    obtain ⟨k, hk, rfl, rfl, hle, hbel⟩ := hrel
    have HB := Lib.hid hbel
    have hB := hbel.size
    obtain ⟨r, hr⟩ : ∃ r : Int, left - (l.length : Int) - (sumSy (l.take k) : Int) = r := ⟨_, rfl⟩
    have hr0 : 0 ≤ r := by omega
    have hr1 : r ≤ 1048576 := by omega
    by_cases hlt : k < l.length
    · obtain ⟨x, rfl, hx, c0, c1, c2, hsz, _, _⟩ := HA.out k hlt
      have HS := Lib.hid (sumSy_snoc l k hlt)
      obtain ⟨t, ht⟩ : ∃ t, l[k] = t := ⟨_, rfl⟩
      rw [ht] at c0 c1 c2 hsz HS
      have d0 : wr.cell? (x.add (k * 3)) = some (.string t.name) := (hbel.cell (by rw [addr_block]; exact hx)).trans c0
      have d1 : wr.cell? ⟨(x.add (k * 3)).block, (x.add (k * 3)).off + 1, none⟩ = some (.int .i64 t.start) := (hbel.cell (p := ⟨_, _, none⟩) (by rw [addr_block]; exact hx)).trans c1
      have d2 : wr.cell? ⟨(x.add (k * 3)).block, (x.add (k * 3)).off + 2, none⟩ = some (.int .i64 t.size) := (hbel.cell (p := ⟨_, _, none⟩) (by rw [addr_block]; exact hx)).trans c2
      have k0 : (0 : Int) ≤ (k : Int) := by omega
      have k1 : (k : Int) < (l.length : Int) := by omega
      have HR := Lib.hid hr
      rw [hr]
      clear c0 c1 c2 hbel hr ht
      by_cases hs : (t.name.size : Int) ≤ r
      · go_wp2_with fail
        refine (l_szSymbol t.name t.start t.size r _ hsz hr0 hr1 hs).mono ?_
        rintro e w1 ⟨rfl, b1⟩
        have HB1 := Lib.hid (HB.out.trans (b1.mono hB))
        clear b1
        have hd : decide (r - (t.name.size : Int) < 0) = false := by simp; omega
        go_wp2
        go_roundw
        case rel => exact ⟨k + 1, by omega, by go_num, by rw [HS.out, ← HR.out]; go_num, by rw [HS.out]; have := HR.out; omega, HB1.out⟩
        case measure => simp [intOf]; omega
      · have hs' : r < (t.name.size : Int) := by omega
        go_wp2_with fail
        refine (l_szSymbol_big t.name t.start t.size r _ hsz hr0 hr1 hs').mono ?_
        rintro e w1 ⟨rfl, b1⟩
        have HB1 := Lib.hid (HB.out.trans (b1.mono hB))
        clear b1
        go_wp2
        go_ret
        exact ⟨-1, rfl, HB1.out, .inl rfl⟩
    · have hkk : k = l.length := by omega
      subst hkk
      have HS := Lib.hid (sumSy_all l)
      have HR := Lib.hid hr
      rw [hr]
      clear hr
      go_wp2
      go_ret
      exact ⟨r, rfl, HB.out, .inr ⟨hr0, by have := HR.out; have := HS.out; omega⟩⟩
end Go.Proofs.Ytcflojdkaddemab
