/- What the model's functions that draw numbers return: bytes, numbers below a bound, a new cursor. -/
import Derived.Test.YtcflojdkaddemaaRows
import Derived.Test.YtcflojdkaddemaaPlainB
import Derived.Deep.QuietTactic
import Derived.BigQuiet
import Derived.Outline
import Derived.Lib.Hide
namespace Go.Proofs.Ytcflojdkaddemaa
open Go.RowKit Go.Lib

set_option maxHeartbeats 400000 in
theorem d_byte (c : Nat) (a : Option Addr) (len cap : Nat) (z : List Int) (w : World) (H : CurAt 104 w c a len cap z) :
    Calls Try.prog 65 #[.pointer (some ⟨c, 0, none⟩)] w (DrawInt 104 0 255 c a len cap z w) := by
  have HC := Lib.hid H
  obtain ⟨⟨i, h, hblk, hil⟩, hrow, hlt, hlen⟩ := H
  have c0 : w.cell? ⟨c, 0, none⟩ = some (.slice a len cap) := by rw [cell_of_row w c 0 _ _ _ hblk]; rfl
  have c1 : w.cell? ⟨c, 1, none⟩ = some (.int .i64 (i : Int)) := by rw [cell_of_row w c 1 _ _ _ hblk]; rfl
  have c2 : w.cell? ⟨c, 2, none⟩ = some (.int .i64 h) := by rw [cell_of_row w c 2 _ _ _ hblk]; rfl
  have f1 : w.frozen? ⟨c, 1, none⟩ = false := frozen_of_block hblk
  have f2 : w.frozen? ⟨c, 2, none⟩ = false := frozen_of_block hblk
  have q255 := i64_and255
  have HB := Lib.hid hblk
  clear hblk
  by_cases hi : i < len
  · rcases hrow with ⟨rfl, rfl, rfl, rfl⟩ | ⟨x, rfl, hl, hm, hz, hcell, hwz⟩
    · omega
    · obtain ⟨b, off, spot⟩ := x
      have hbc := hlt _ rfl (by omega)
      have hc := hcell i (by omega)
      have hspot : spot = none := by simpa [Addr.add] using World.cell?_spot (hcell 0 (by omega))
      subst hspot
      rw [add_plain] at hc
      have hel : w.cell? ⟨b, off + i, none⟩ = some (.int .u8 (z.getD i 0)) := hc
      have hne : ¬ b = c := by simp at hbc; omega
      have hne' : ¬ c = b := fun e => hne e.symm
      have i0 : (0 : Int) ≤ (i : Int) := by omega
      have i1 : (i : Int) < (len : Int) := by omega
      clear hcell hwz hlt hc hbc
      generalize z.getD i 0 = y at hel
      go_enter Try.func65, Try.ntmps65
      go_wp2_with fail
      generalize wrap64 (wrap64 (h * 6364136223846793005) + 1442695040888963407) = g
      generalize wrap64 (h * 6364136223846793005) = g'
      go_quiet (fail)
      go_wp2_with fail
      go_quiet (fail)
      go_wp2_with fail
      go_quiet (fail)
      go_wp2
      go_ret
      exact draw_end2 HC.out hi HB.out _ _ _
  · clear hrow hlt
    go_enter Try.func65, Try.ntmps65
    go_wp2_with fail
    generalize wrap64 (wrap64 (h * 6364136223846793005) + 1442695040888963407) = g
    generalize wrap64 (h * 6364136223846793005) = g'
    go_quiet (fail)
    go_wp2_with fail
    go_quiet (fail)
    go_wp2
    go_ret
    exact draw_end1 HC.out hil HB.out _ _ _ _

/-- A number below n was drawn, n up to 256. -/
theorem d_below_small (c : Nat) (a : Option Addr) (len cap : Nat) (z : List Int) (n : Int) (w : World) (H : CurAt 104 w c a len cap z) (h0 : 0 < n) (h1 : n ≤ 256) :
    Calls Try.prog 35 #[.pointer (some ⟨c, 0, none⟩), .int .i64 n] w (DrawInt 104 0 (n - 1) c a len cap z w) := by
  have HC := Lib.hid H
  clear H
  go_enter Try.func35, Try.ntmps35
  go_wp2_with fail
  refine (d_byte c a len cap z _ HC.out).mono ?_
  rintro e w1 ⟨x, x0, x1, rfl, H1, G1⟩
  have hx := emod_below x n x0 h0
  have HX := Lib.hid hx
  clear hx
  go_wp2
  go_ret
  exact ⟨_, HX.out.1, HX.out.2, rfl, H1, G1⟩

theorem d_below_big (c : Nat) (a : Option Addr) (len cap : Nat) (z : List Int) (n : Int) (w : World) (H : CurAt 104 w c a len cap z) (h0 : 256 < n) (h1 : n ≤ 9223372036854775807) :
    Calls Try.prog 35 #[.pointer (some ⟨c, 0, none⟩), .int .i64 n] w (DrawInt 104 0 (n - 1) c a len cap z w) := by
  have HC := Lib.hid H
  clear H
  go_enter Try.func35, Try.ntmps35
  go_wp2_with fail
  refine (d_byte c a len cap z _ HC.out).mono ?_
  rintro e w1 ⟨x, x0, x1, rfl, H1, G1⟩
  have K1 := Lib.hid H1; have L1 := Lib.hid G1; clear H1 G1
  go_wp2_with fail
  refine (d_byte c a len cap z _ K1.out).mono ?_
  rintro e w2 ⟨y, y0, y1, rfl, H2, G2⟩
  have K2 := Lib.hid H2; have L2 := Lib.hid G2; clear H2 G2
  go_wp2_with fail
  refine (d_byte c a len cap z _ K2.out).mono ?_
  rintro e w3 ⟨u, u0, u1, rfl, H3, G3⟩
  have K3 := Lib.hid H3; have L3 := Lib.hid G3; clear H3 G3
  go_wp2_with fail
  refine (d_byte c a len cap z _ K3.out).mono ?_
  rintro e w4 ⟨v, v0, v1, rfl, H4, G4⟩
  have K4 := Lib.hid H4; have L4 := Lib.hid G4; clear H4 G4
  have hx := emod_below (x * 16777216 + y * 65536 + u * 256 + v) n (by omega) (by omega)
  have HX := Lib.hid hx
  clear hx
  go_wp2
  go_ret
  exact ⟨_, HX.out.1, HX.out.2, rfl, K4.out, ((L1.out.trans L2.out).trans L3.out).trans L4.out⟩

theorem d_below (c : Nat) (a : Option Addr) (len cap : Nat) (z : List Int) (n : Int) (w : World) (H : CurAt 104 w c a len cap z) (h0 : 0 < n) (h1 : n ≤ 9223372036854775807) :
    Calls Try.prog 35 #[.pointer (some ⟨c, 0, none⟩), .int .i64 n] w (DrawInt 104 0 (n - 1) c a len cap z w) := by
  by_cases h : n ≤ 256
  · exact d_below_small c a len cap z n w H h0 h
  · exact d_below_big c a len cap z n w H (by omega) h1

set_option maxRecDepth 100000 in
set_option maxHeartbeats 400000 in
theorem d_new (a : Option Addr) (len cap : Nat) (z : List Int) (w : World) (H : IsRow .u8 w a len cap z) (hl : len ≤ 1048576) :
    Calls Try.prog 34 #[.slice a len cap] w (DrawCur 104 a len cap z w) := by
  have HC := Lib.hid H
  have hcell : ∀ k, k < len → ∃ b off, a = some ⟨b, off, none⟩ ∧ w.cell? ⟨b, off + k, none⟩ = some (.int .u8 (z.getD k 0)) := by
    intro k hk
    rcases H with ⟨rfl, rfl, _, _⟩ | ⟨x, rfl, h1, h2, h3, h4, h5⟩
    · omega
    · obtain ⟨b, off, spot⟩ := x
      have hspot : spot = none := by simpa [Addr.add] using World.cell?_spot (h4 0 (by omega))
      subst hspot
      exact ⟨b, off, rfl, by have := h4 k (by omega); rw [add_plain] at this; exact this⟩
  have HK := Lib.hid hcell
  clear H hcell
  go_enter Try.func34, Try.ntmps34
  go_wp2
  go_loop [3, 4] (fun h i => ∃ (k : Nat) (g : Int), k ≤ len ∧ i = .int .i64 (k : Int) ∧ h = .int .i64 g) (fun _ i => len - (intOf i).toNat)
  case atStart => exact ⟨0, _, Nat.zero_le _, rfl, rfl⟩
  case round =>
    obtain ⟨k, g, hk, rfl, rfl⟩ := hrel
    by_cases hlt : k < len
    · by_cases h4 : k < 4000
      · obtain ⟨b, off, rfl, hel⟩ := HK.out k hlt
        clear HK
        generalize z.getD k 0 = y at hel
        go_wp2
        go_round
        case rel => exact ⟨k + 1, _, by omega, by go_num, rfl⟩
        case measure => simp [intOf]; omega
      · have h4' : decide ((k : Int) < 4000) = false := by simp; omega
        go_wp2
        go_ret
        exact draw_new HC.out hl _
    · go_wp2
      go_ret
      exact draw_new HC.out hl _
end Go.Proofs.Ytcflojdkaddemaa
