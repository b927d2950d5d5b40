/- The laws' heldTokS: the marks are there still. -/
import Derived.Test.YtcnnfhcpkbjolaaMarkOne
import Derived.Test.YtcnnfhcpkbjolaaPlainC
namespace Go.Proofs.Ytcnnfhcpkbjolaa
open Go.RowKit Go.Lib

set_option maxHeartbeats 1000000 in
theorem l_heldToks (a : Option Addr) (c n : Nat) (m : Nat) (w : World) (hr : ReadT w a (mkTs m n)) (hl : n ≤ 1048576) (h0 : 0 < m) (h1 : m ≤ 5000000) :
    Calls Try.prog 10 #[.slice a n c, .int .i64 (m : Int)] w fun e w' => e = .returned (.int .i64 ((m + 3 * n : Nat) : Int)) ∧ Below w.heap.size w w' := by
  have HR := Lib.hid hr
  clear hr
  go_enter Try.func10, Try.ntmps10
  go_wp2_with fail
  go_loopw [1, 5] (fun x i wr => ∃ k : Nat, k ≤ n ∧ i = .int .i64 (k : Int) ∧ x = .int .i64 ((m + 3 * k : Nat) : Int) ∧ Below w.heap.size w wr) (fun _ i _ => n - (intOf i).toNat)
  case atStart => exact ⟨0, Nat.zero_le _, rfl, rfl, Below.refl _ _⟩
  case round =>
    obtain ⟨k, hk, rfl, rfl, hbel⟩ := hrel
    have HB := Lib.hid hbel
    have hsz := hbel.size
    by_cases hlt : k < n
    · obtain ⟨g, rfl, hg, c0, c1, c2⟩ := HR.out k (by rw [mkTs_length]; exact hlt)
      rw [mkTs_get] at c0 c1 c2
      simp only [mkTok] at c0 c1 c2
      rw [show ((m + 3 * k : Nat) : Int) = (m : Int) + 3 * (k : Int) from by omega] at c0
      rw [show ((m + 3 * k + 1 : Nat) : Int) = (m : Int) + 3 * (k : Int) + 1 from by omega] at c1
      have d0 := (hbel.cell (p := ⟨g, k * 3, none⟩) hg).trans c0
      have d1 := (hbel.cell (p := ⟨g, k * 3 + 1, none⟩) hg).trans c1
      have d2 := (hbel.cell (p := ⟨g, k * 3 + 2, none⟩) hg).trans c2
      have hgl' : g < wr.heap.size := by omega
      have k0 : (0 : Int) ≤ (k : Int) := by omega
      have k1 : (k : Int) < (n : Int) := by omega
      have HM : Hid (∀ (W : World) (x : Int), x = (m : Int) + 3 * (k : Int) + 2 → Calls Try.prog 20 #[.int .i64 x] W fun e w' => e = .returned (.string (mkT (m + 3 * k + 2))) ∧ Below W.heap.size W w') := Lib.hid (fun W x hx => l_mark x (m + 3 * k + 2) W (by omega) (by omega) (by omega))
      clear c0 c1 c2 hbel
      obtain ⟨s, hs⟩ : ∃ s, mkT (m + 3 * k + 2) = s := ⟨_, rfl⟩
      rw [hs] at d2 HM
      clear hs
      go_wp2_with fail
      go_region_held3 (fun w' => w'.cell? ⟨g, k * 3 + 2, none⟩ = some (.string s)) (first | go_keep | (rw [b1.cell hgl']; exact d2)) (first
        | (go_at_call 20; refine (HM.out _ _ (by omega)).mono ?_; rintro e w1 ⟨rfl, b1⟩))
      all_goals
        have HB1 := Lib.hid (HB.out.drew.trans (b1.mono hsz))
        clear b1
        go_wp2
        go_roundw
        case rel => exact ⟨k + 1, by omega, by go_num, by go_num, HB1.out⟩
        case measure => simp [intOf]; omega
    · have hkk : k = n := by omega
      subst hkk
      go_wp2
      go_ret
      exact ⟨rfl, HB.out⟩
end Go.Proofs.Ytcnnfhcpkbjolaa
