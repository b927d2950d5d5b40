/- The laws' own functions on rows of rules: marks, and what they hold. -/
import Derived.Test.YtfemkbdgbpgjgaaRows
import Derived.Test.YtfemkbdgbpgjgaaRuPlain
import Derived.Laws.MakeOwn
import Derived.Deep.QuietTactic
import Derived.BigQuiet
import Derived.Outline
import Derived.Lib.Hide
import Derived.Below
import Derived.Deep.RegionHeld3
namespace Go.Proofs.Ytfemkbdgbpgjgaa
open Go.RowKit Go.Lib

set_option maxHeartbeats 1000000 in
theorem l_markRuleS (a : Option Addr) (c n : Nat) (xs : List Value) (m B : Nat) (w : World) (hown : w.ownsRow B 61 4 (.slice a n c) n xs) (hl : n ≤ 1048576) (h1 : m ≤ 1048576) :
    Calls Try.prog 47 #[.slice a n c, .int .i64 (m : Int)] w fun e w' => e = .returned (.int .i64 ((m + 4 * n : Nat) : Int)) ∧ w'.ownsRow B 61 4 (.slice a n c) n (rusV (mkRu m n)) ∧ w.grownBy w' (Value.slice a n c).ownBlock := by
  have HO := Lib.hid hown
  clear hown
  go_enter Try.func47, Try.ntmps47
  go_wp2_with fail
  go_loopw [1, 5] (fun x i wr => ∃ (k : Nat) (R : List Value), k ≤ n ∧ i = .int .i64 (k : Int) ∧ x = .int .i64 ((m + 4 * k : Nat) : Int) ∧ R.length = (n - k) * 4 ∧ wr.ownsRow B 61 4 (.slice a n c) n (headRu k (mkRu m n) R) ∧ w.grownBy wr (Value.slice a n c).ownBlock) (fun _ i _ => n - (intOf i).toNat)
  case atStart => exact ⟨0, xs, Nat.zero_le _, rfl, rfl, by simpa using HO.out.1, HO.out, World.grownBy.refl _ _⟩
  case round =>
    obtain ⟨k, R, hk, rfl, rfl, hR, hown, hg⟩ := hrel
    have HOW := Lib.hid hown
    have HG := Lib.hid hg
    clear hown hg
    by_cases hlt : k < n
    · obtain ⟨g, cap, cur, he, hgB, hgw⟩ : ∃ g cap cur, Value.slice a n c = .slice (some ⟨g, 0, none⟩) n cap ∧ B ≤ g ∧ wr.heap[g]? = some (.cells cur 61 (0, 0)) := by
        rcases HOW.out.2 with ⟨_, h0⟩ | ⟨g, cap, cur, he, h1, h2, _⟩
        · omega
        · exact ⟨g, cap, cur, he, h1, h2⟩
      injection he with ha _ hc
      subst ha hc
      clear hgw
      obtain ⟨y0, y1, y2, y3, R', hRe, hR'⟩ := cutRu R (n - (k + 1)) (by rw [hR]; congr 1; omega)
      subst hRe
      have HR' := Lib.hid hR'
      have hkl : k < (mkRu m n).length := by rw [mkRu_length]; exact hlt
      have HS := Lib.hid (headRu_set k (mkRu m n) hkl y0 y1 y2 y3 R')
      rw [mkRu_get] at HS
      have hlen : (headRu k (mkRu m n) (y0 :: y1 :: y2 :: y3 :: R')).length = n * 4 := HOW.out.1
      have cellk : ∀ i, i < 4 → ∃ y, wr.cell? ⟨g, k * 4 + i, none⟩ = some y := fun i hi => by
        have := HOW.out.cellAt (k * 4 + i) (by omega)
        rw [this]
        exact ⟨_, List.getElem?_eq_getElem (by omega)⟩
      obtain ⟨z0, e0⟩ := cellk 0 (by omega)
      rw [Nat.add_zero] at e0
      obtain ⟨z1, e1⟩ := cellk 1 (by omega)
      obtain ⟨z2, e2⟩ := cellk 2 (by omega)
      obtain ⟨z3, e3⟩ := cellk 3 (by omega)
      have fr := HOW.out.frozenAt
      have S1 := HOW.out.stored (k * 4) (.int .i64 ((m : Int) + 4 * (k : Int)))
      have S2 := S1.1.stored (k * 4 + 1) (.int .i64 ((m : Int) + 4 * (k : Int) + 1))
      have S3 := S2.1.stored (k * 4 + 2) (.bool (((m : Int) + 4 * (k : Int) + 1 + 1) % 3 == 0))
      have S4 := S3.1.stored (k * 4 + 3) (.int .i64 ((m : Int) + 4 * (k : Int) + 1 + 1 + 1))
      have HE : Hid (((((headRu k (mkRu m n) (y0 :: y1 :: y2 :: y3 :: R')).set (k * 4) (.int .i64 ((m : Int) + 4 * (k : Int)))).set (k * 4 + 1) (.int .i64 ((m : Int) + 4 * (k : Int) + 1))).set (k * 4 + 2) (.bool (((m : Int) + 4 * (k : Int) + 1 + 1) % 3 == 0))).set (k * 4 + 3) (.int .i64 ((m : Int) + 4 * (k : Int) + 1 + 1 + 1)) = headRu (k + 1) (mkRu m n) R') := Lib.hid (by
        have h := HS.out
        simp only [mkRu1] at h
        exact h)
      have HO2 := Lib.hid (HE.out ▸ S4.1)
      have HG2 := Lib.hid ((((HG.out.trans S1.2).trans S2.2).trans S3.2).trans S4.2)
      have k0 : (0 : Int) ≤ (k : Int) := by omega
      have k1 : (k : Int) < (n : Int) := by omega
      clear cellk hlen S1 S2 S3 S4 hR hR' hkl
      go_wp2_with fail
      go_roundw
      case rel => exact ⟨k + 1, R', by omega, by go_num, by go_num, HR'.out, HO2.out, HG2.out⟩
      case measure => simp [intOf]; omega
    · have hkk : k = n := by omega
      subst hkk
      have hR0 : R = [] := List.length_eq_zero_iff.1 (by rw [hR]; simp)
      subst hR0
      go_wp2
      go_ret
      exact ⟨rfl, by have := HOW.out; unfold headRu at this; rw [List.take_of_length_le (by rw [mkRu_length]; exact Nat.le_refl _), List.append_nil] at this; exact this, HG.out⟩
set_option maxHeartbeats 1000000 in
theorem l_heldRuleS (a : Option Addr) (c n : Nat) (m : Nat) (w : World) (hr : ReadRu w a (mkRu m n)) (hl : n ≤ 1048576) (h1 : m ≤ 1048576) :
    Calls Try.prog 48 #[.slice a n c, .int .i64 (m : Int)] w fun e w' => e = .returned (.int .i64 ((m + 4 * n : Nat) : Int)) ∧ Below w.heap.size w w' := by
  have HR := Lib.hid hr
  clear hr
  go_enter Try.func48, Try.ntmps48
  go_wp2_with fail
  go_loopw [1, 5] (fun x i wr => ∃ k : Nat, k ≤ n ∧ i = .int .i64 (k : Int) ∧ x = .int .i64 ((m + 4 * k : Nat) : Int) ∧ Below w.heap.size w wr) (fun _ i _ => n - (intOf i).toNat)
  case atStart => exact ⟨0, Nat.zero_le _, rfl, rfl, Below.refl _ _⟩
  case round =>
    obtain ⟨k, hk, rfl, rfl, hbel⟩ := hrel
    have HB := Lib.hid hbel
    have hsz := hbel.size
    by_cases hlt : k < n
    · obtain ⟨g, rfl, hg, c0, c1, c2, c3⟩ := HR.out k (by rw [mkRu_length]; exact hlt)
      rw [mkRu_get] at c0 c1 c2 c3
      simp only [mkRu1] at c0 c1 c2 c3
      have d0 := (hbel.cell (p := ⟨g, k * 4, none⟩) hg).trans c0
      have d1 := (hbel.cell (p := ⟨g, k * 4 + 1, none⟩) hg).trans c1
      have d2 := (hbel.cell (p := ⟨g, k * 4 + 2, none⟩) hg).trans c2
      have d3 := (hbel.cell (p := ⟨g, k * 4 + 3, none⟩) hg).trans c3
      have k0 : (0 : Int) ≤ (k : Int) := by omega
      have k1 : (k : Int) < (n : Int) := by omega
      clear c0 c1 c2 c3 hbel
      go_wp2_with fail
      go_roundw
      case rel => exact ⟨k + 1, by omega, by go_num, by go_num, HB.out⟩
      case measure => simp [intOf]; omega
    · have hkk : k = n := by omega
      subst hkk
      go_wp2
      go_ret
      exact ⟨rfl, HB.out⟩
end Go.Proofs.Ytfemkbdgbpgjgaa
