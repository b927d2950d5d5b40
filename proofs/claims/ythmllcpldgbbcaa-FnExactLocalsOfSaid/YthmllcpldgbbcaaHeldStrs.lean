/- The laws' heldStringS. -/
import Derived.Test.YthmllcpldgbbcaaMarkOne
namespace Go.Proofs.Ythmllcpldgbbcaa
open Go.RowKit Go.Lib

set_option maxHeartbeats 2000000 in
theorem l_heldStrs (a : Option Addr) (c n : Nat) (m : Nat) (w : World) (hr : ReadS w a (mks m n)) (hl : n ≤ 1048576) (h0 : 0 < m) (h1 : m ≤ 5000000) :
    Calls Try.prog 27 #[.slice a n c, .int .i64 (m : Int)] w fun e w' => e = .returned (.int .i64 ((m + n : Nat) : Int)) ∧ Below w.heap.size w w' := by
  have HR := Lib.hid hr
  clear hr
  go_enter Try.func27, Try.ntmps27
  go_wp2_with fail
  go_loopw [1, 5] (fun x i wr => ∃ k : Nat, k ≤ n ∧ i = .int .i64 (k : Int) ∧ x = .int .i64 ((m + k : Nat) : Int) ∧ Below w.heap.size w wr) (fun _ i _ => n - (intOf i).toNat)
  case atStart => exact ⟨0, Nat.zero_le _, rfl, rfl, Below.refl _ _⟩
  case round =>
    obtain ⟨k, hk, rfl, rfl, hbel⟩ := hrel
    have HB := Lib.hid hbel
    have hsz := hbel.size
    by_cases hlt : k < n
    · obtain ⟨g, rfl, c1⟩ := HR.out k (by rw [mks_length]; exact hlt)
      have hgl := World.block_lt_of_cell? w _ c1
      dsimp only at hgl
      have hx : (mks m n)[k]'(by rw [mks_length]; exact hlt) = mkT (m + k) := by simp [mks]
      rw [hx] at c1
      have cw : wr.cell? ⟨g, k, none⟩ = some (.string (mkT (m + k))) := by rw [hbel.cell hgl]; exact c1
      have hgl' : g < wr.heap.size := by omega
      have k0 : (0 : Int) ≤ (k : Int) := by omega
      have k1 : (k : Int) < (n : Int) := by omega
      have HM : Hid (∀ W : World, Calls Try.prog 34 #[.int .i64 ((m : Int) + (k : Int))] W fun e w' => e = .returned (.string (mkT (m + k))) ∧ Below W.heap.size W w') := Lib.hid (fun W => l_mark _ (m + k) W (by omega) (by omega) (by omega))
      clear hx c1 hbel
      generalize mkT (m + k) = x at cw HM
      go_wp2_with fail
      go_region_held3 (fun w' => w'.cell? ⟨g, k, none⟩ = some (.string x)) (first | go_keep | (rw [b1.cell hgl']; exact cw)) (first
        | (go_at_call 34; refine (HM.out _).mono ?_; rintro e w1 ⟨rfl, b1⟩))
      all_goals
        have HB1 := Lib.hid (HB.out.drew.trans (b1.mono hsz))
        clear b1
        go_wp2
        go_roundw
        case rel => exact ⟨k + 1, by omega, by go_num, by go_num, HB1.out⟩
        case measure => simp [intOf]; omega
    · have hkk : k = n := by omega
      subst hkk
      go_wp2
      go_ret
      exact ⟨rfl, HB.out⟩
end Go.Proofs.Ythmllcpldgbbcaa
