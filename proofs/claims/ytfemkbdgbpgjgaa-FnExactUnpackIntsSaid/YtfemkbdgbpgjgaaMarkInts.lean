/- The laws' own functions on rows of ints: equality, marks. -/
import Derived.Test.YtfemkbdgbpgjgaaRows
import Derived.Test.YtfemkbdgbpgjgaaPlainA
import Derived.Outline
import Derived.Lib.Hide
import Derived.Deep.QuietTactic
import Derived.BigQuiet
import Derived.WalkSmall
import Derived.Test.YtfemkbdgbpgjgaaEqInts
namespace Go.Proofs.Ytfemkbdgbpgjgaa
open Go.RowKit Go.Lib

set_option maxHeartbeats 400000 in
theorem l_markInts (a : Option Addr) (c : Nat) (l : List Int) (m B : Nat) (w : World) (hown : w.ownsRow B 3 1 (.slice a l.length c) l.length (intV l)) (hB : B ≤ w.heap.size) (hl : l.length ≤ 2097152) (h1 : m ≤ 2097152) :
    Calls Try.prog 38 #[.slice a l.length c, .int .i64 (m : Int)] w fun e w' => e = .returned (.int .i64 ((m + l.length : Nat) : Int)) ∧ w'.ownsRow B 3 1 (.slice a l.length c) l.length (intV (mki m l.length)) ∧ w.grownBy w' (Value.slice a l.length c).ownBlock := by
  have HO := Lib.hid hown
  clear hown
  go_enter Try.func38, Try.ntmps38
  go_wp2_with fail
  go_loopw [1, 5] (fun x i wr => ∃ k : Nat, k ≤ l.length ∧ i = .int .i64 (k : Int) ∧ x = .int .i64 ((m + k : Nat) : Int) ∧ wr.ownsRow B 3 1 (.slice a l.length c) l.length (intV (halfI m k l)) ∧ w.grownBy wr (Value.slice a l.length c).ownBlock) (fun _ i _ => l.length - (intOf i).toNat)
  case atStart => exact ⟨0, Nat.zero_le _, rfl, rfl, by rw [halfI_zero]; exact HO.out, World.grownBy.refl _ _⟩
  case round =>
    obtain ⟨k, hk, rfl, rfl, hown, hg⟩ := hrel
    have HOW := Lib.hid hown
    have HG := Lib.hid hg
    have hsz := hg.size
    clear hown hg
    by_cases hlt : k < l.length
    · obtain ⟨g, cap, cur, he, hgB, hgw, _⟩ : ∃ g cap cur, Value.slice a l.length c = .slice (some ⟨g, 0, none⟩) l.length cap ∧ B ≤ g ∧ wr.heap[g]? = some (.cells cur 3 (0, 0)) ∧ True := by
        rcases HOW.out.2 with ⟨_, h0⟩ | ⟨g, cap, cur, he, h1, h2, _⟩
        · omega
        · exact ⟨g, cap, cur, he, h1, h2, trivial⟩
      injection he with ha _ hc
      subst ha hc
      clear hgw
      have hcl := HOW.out.cellAt k (by omega)
      have hkh : k < (halfI m k l).length := by rw [halfI_length _ _ _ hk]; exact hlt
      obtain ⟨y, hcell⟩ : ∃ y, wr.cell? ⟨g, k, none⟩ = some (.int .i64 y) := ⟨_, by rw [hcl]; simp [intV, hkh]; rfl⟩
      have hfr := HOW.out.frozenAt k
      have S := HOW.out.stored k (.int .i64 ((m + k : Nat) : Int))
      have HS : Hid ((wr.setCell ⟨g, k, none⟩ (.int .i64 ((m : Int) + (k : Int)))).ownsRow B 3 1 (.slice (some ⟨g, 0, none⟩) l.length c) l.length (intV (halfI m (k + 1) l))) := Lib.hid (by
        have := S.1; rw [halfI_set m k l hlt] at this; rw [← Int.natCast_add]; exact this)
      have HG1 : Hid (w.grownBy (wr.setCell ⟨g, k, none⟩ (.int .i64 ((m : Int) + (k : Int)))) (some g)) := Lib.hid (by have := World.grownBy.trans HG.out S.2; rw [← Int.natCast_add]; exact this)
      have k0 : (0 : Int) ≤ (k : Int) := by omega
      have k1 : (k : Int) < (l.length : Int) := by omega
      clear hcl hkh S
      go_wp2
      go_roundw
      case rel => exact ⟨k + 1, by omega, by go_num, by go_num, HS.out, HG1.out⟩
      case measure => simp [intOf]; omega
    · have hkk : k = l.length := by omega
      subst hkk
      go_wp2
      go_ret
      exact ⟨rfl, by have := HOW.out; rw [halfI_all] at this; exact this, HG.out⟩

set_option maxHeartbeats 400000 in
theorem l_heldInts (a : Option Addr) (c n : Nat) (m : Nat) (w : World) (hr : ReadI w a (mki m n)) (hl : n ≤ 2097152) (h1 : m ≤ 2097152) :
    Calls Try.prog 39 #[.slice a n c, .int .i64 (m : Int)] w fun e w' => e = .returned (.int .i64 ((m + n : Nat) : Int)) ∧ w = w' := by
  have HR := Lib.hid hr
  clear hr
  go_enter Try.func39, Try.ntmps39
  go_wp2_with fail
  go_loop [1, 5] (fun x i => ∃ k : Nat, k ≤ n ∧ i = .int .i64 (k : Int) ∧ x = .int .i64 ((m + k : Nat) : Int)) (fun _ i => n - (intOf i).toNat)
  case atStart => exact ⟨0, Nat.zero_le _, rfl, rfl⟩
  case round =>
    obtain ⟨k, hk, rfl, rfl⟩ := hrel
    by_cases hlt : k < n
    · obtain ⟨g, rfl, _, c1⟩ := HR.out k (by rw [mki_length]; exact hlt)
      rw [mki_get, Int.natCast_add] at c1
      have k0 : (0 : Int) ≤ (k : Int) := by omega
      have k1 : (k : Int) < (n : Int) := by omega
      go_wp2
      go_round
      case rel => exact ⟨k + 1, by omega, by go_num, by go_num⟩
      case measure => simp [intOf]; omega
    · have hkk : k = n := by omega
      subst hkk
      go_wp2
      go_ret
      exact ⟨rfl, rfl⟩
end Go.Proofs.Ytfemkbdgbpgjgaa
