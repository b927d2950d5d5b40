/- The laws' own functions on rows of tokens: marks. -/
import Derived.Test.YtcnnfhcpkbjolaaMarkOne
import Derived.Test.YtcnnfhcpkbjolaaPlainC
namespace Go.Proofs.Ytcnnfhcpkbjolaa
open Go.RowKit Go.Lib

set_option maxHeartbeats 1000000 in
theorem l_markToks (a : Option Addr) (c n : Nat) (xs : List Value) (m B : Nat) (w : World) (hown : w.ownsRow B 35 3 (.slice a n c) n xs) (hB : B ≤ w.heap.size) (hl : n ≤ 1048576) (h0 : 0 < m) (h1 : m ≤ 5000000) :
    Calls Try.prog 9 #[.slice a n c, .int .i64 (m : Int)] w fun e w' => e = .returned (.int .i64 ((m + 3 * n : Nat) : Int)) ∧ w'.ownsRow B 35 3 (.slice a n c) n (toksV (mkTs m n)) ∧ w.grownBy w' (Value.slice a n c).ownBlock := by
  have HO := Lib.hid hown
  clear hown
  go_enter Try.func9, Try.ntmps9
  go_wp2_with fail
  go_loopw [1, 5] (fun x i wr => ∃ (k : Nat) (R : List Value), k ≤ n ∧ i = .int .i64 (k : Int) ∧ x = .int .i64 ((m + 3 * k : Nat) : Int) ∧ R.length = (n - k) * 3 ∧ wr.ownsRow B 35 3 (.slice a n c) n (headT k (mkTs m n) R) ∧ w.grownBy wr (Value.slice a n c).ownBlock) (fun _ i _ => n - (intOf i).toNat)
  case atStart => exact ⟨0, xs, Nat.zero_le _, rfl, rfl, by simpa using HO.out.1, HO.out, World.grownBy.refl _ _⟩
  case round =>
    obtain ⟨k, R, hk, rfl, rfl, hR, hown, hg⟩ := hrel
    have HOW := Lib.hid hown
    have HG := Lib.hid hg
    have hsz := hg.size
    clear hown hg
    by_cases hlt : k < n
    · obtain ⟨g, cap, cur, he, hgB, hgw⟩ : ∃ g cap cur, Value.slice a n c = .slice (some ⟨g, 0, none⟩) n cap ∧ B ≤ g ∧ wr.heap[g]? = some (.cells cur 35 (0, 0)) := by
        rcases HOW.out.2 with ⟨_, h0⟩ | ⟨g, cap, cur, he, h1, h2, _⟩
        · omega
        · exact ⟨g, cap, cur, he, h1, h2⟩
      injection he with ha _ hc
      subst ha hc
      clear hgw
      obtain ⟨y0, y1, y2, R', hRe, hR'⟩ := three R (n - (k + 1)) (by rw [hR]; congr 1; omega)
      subst hRe
      have HR' := Lib.hid hR'
      have hkl : k < (mkTs m n).length := by rw [mkTs_length]; exact hlt
      have HS := Lib.hid (headT_set k (mkTs m n) hkl y0 y1 y2 R')
      rw [mkTs_get] at HS
      have hlen : (headT k (mkTs m n) (y0 :: y1 :: y2 :: R')).length = n * 3 := HOW.out.1
      have cellk : ∀ i, i < 3 → ∃ y, wr.cell? ⟨g, k * 3 + i, none⟩ = some y := fun i hi => by
        have := HOW.out.cellAt (k * 3 + i) (by omega)
        rw [this]
        exact ⟨_, List.getElem?_eq_getElem (by omega)⟩
      obtain ⟨z0, e0⟩ := cellk 0 (by omega)
      rw [Nat.add_zero] at e0
      obtain ⟨z1, e1⟩ := cellk 1 (by omega)
      have fr := HOW.out.frozenAt
      have S1 := HOW.out.stored (k * 3) (.int .i64 ((m + 3 * k : Nat) : Int))
      have S2 := S1.1.stored (k * 3 + 1) (.int .i64 ((m + 3 * k + 1 : Nat) : Int))
      rw [show ((m + 3 * k : Nat) : Int) = (m : Int) + 3 * (k : Int) from by omega] at S1 S2
      rw [show ((m + 3 * k + 1 : Nat) : Int) = (m : Int) + 3 * (k : Int) + 1 from by omega] at S2
      have HO2 := Lib.hid S2.1
      have HG2 := Lib.hid ((HG.out.trans S1.2).trans S2.2)
      have k0 : (0 : Int) ≤ (k : Int) := by omega
      have k1 : (k : Int) < (n : Int) := by omega
      clear cellk hlen S1 S2 hR hR' hkl
      go_wp2_with fail
      refine (l_mark _ (m + 3 * k + 2) _ (by omega) (by omega) (by omega)).mono ?_
      rintro e w1 ⟨rfl, b1⟩
      have HO3 := Lib.hid (owns3_below HO2.out b1)
      have HG3 := Lib.hid (HG2.out.trans (grown_of_below b1 _))
      clear b1 e0 e1 fr
      have hlen : _ = n * 3 := HO3.out.1
      obtain ⟨z2, e2⟩ : ∃ y, w1.cell? ⟨g, k * 3 + 2, none⟩ = some y := by
        rw [HO3.out.cellAt (k * 3 + 2) (by omega)]
        exact ⟨_, List.getElem?_eq_getElem (by omega)⟩
      have fr := HO3.out.frozenAt
      have S3 := HO3.out.stored (k * 3 + 2) (.string (mkT (m + 3 * k + 2)))
      have HE : Hid ((((headT k (mkTs m n) (y0 :: y1 :: y2 :: R')).set (k * 3) (.int .i64 ((m : Int) + 3 * (k : Int)))).set (k * 3 + 1) (.int .i64 ((m : Int) + 3 * (k : Int) + 1))).set (k * 3 + 2) (.string (mkT (m + 3 * k + 2))) = headT (k + 1) (mkTs m n) R') := Lib.hid (by
        have := HS.out
        simp only [mkTok] at this
        rw [show ((m + 3 * k : Nat) : Int) = (m : Int) + 3 * (k : Int) from by omega, show ((m + 3 * k + 1 : Nat) : Int) = (m : Int) + 3 * (k : Int) + 1 from by omega] at this
        exact this)
      have HO4 := Lib.hid (HE.out ▸ S3.1)
      have HG4 := Lib.hid (HG3.out.trans S3.2)
      clear hlen S3
      go_wp2
      go_roundw
      case rel => exact ⟨k + 1, R', by omega, by go_num, by go_num, HR'.out, HO4.out, HG4.out⟩
      case measure => simp [intOf]; omega
    · have hkk : k = n := by omega
      subst hkk
      have hR0 : R = [] := List.length_eq_zero_iff.1 (by rw [hR]; simp)
      subst hR0
      go_wp2
      go_ret
      exact ⟨rfl, by have := HOW.out; unfold headT at this; rw [List.take_of_length_le (by rw [mkTs_length]; exact Nat.le_refl _), List.append_nil] at this; exact this, HG.out⟩
end Go.Proofs.Ytcnnfhcpkbjolaa
