/- The laws' eqSymbolS: two rows that hold the same symbols are equal. -/
import Derived.Test.YtcflojdkaddemaaRows
import Derived.Test.YtcflojdkaddemaaImgPlain
import Derived.Outline
import Derived.Lib.Hide
import Derived.Deep.QuietTactic
import Derived.BigQuiet
import Derived.Deep.RegionHeld3
namespace Go.Proofs.Ytcflojdkaddemaa
open Go.RowKit Go.Lib

theorem l_eqSymbol (s : ByteArray) (k n : Int) (w : World) :
    Calls Try.prog 68 #[.agg #[.string s, .int .i64 k, .int .i64 n], .agg #[.string s, .int .i64 k, .int .i64 n]] w fun e w' => e = .returned (.bool true) ∧ Below w.heap.size w w' := by
  go_enter Try.func68, Try.ntmps68
  go_wp2
  go_ret
  exact ⟨rfl, ((Below.refl _ _).alloc (Nat.le_refl _) _).alloc (by simp) _⟩

set_option maxHeartbeats 1000000 in
theorem l_eqSymbolS (a b : Option Addr) (c d : Nat) (l : List SyL) (w : World) (ha : ReadSy w a l) (hb : ReadSy w b l) (hl : l.length ≤ 1048576) :
    Calls Try.prog 50 #[.slice a l.length c, .slice b l.length d] w fun e w' => e = .returned (.bool true) ∧ Below w.heap.size w w' := by
  have HA := Lib.hid ha
  have HB := Lib.hid hb
  clear ha hb
  go_enter Try.func50, Try.ntmps50
  go_wp2_with fail
  go_loopw [5] (fun i wr => ∃ (k : Nat), k ≤ l.length ∧ i = .int .i64 (k : Int) ∧ Below w.heap.size w wr) (fun i _ => l.length - (intOf i).toNat)
  case atStart => exact ⟨0, Nat.zero_le _, rfl, Below.refl _ _⟩
  case round =>
    obtain ⟨k, hk, rfl, hbel⟩ := hrel
    have HBE := Lib.hid hbel
    have hB := hbel.size
    by_cases hlt : k < l.length
    · obtain ⟨g, rfl, hg, c0, c1, c2⟩ := HA.out k hlt
      obtain ⟨g', rfl, hg', c0', c1', c2'⟩ := HB.out k hlt
      have k0 : (0 : Int) ≤ (k : Int) := by omega
      have k1 : (k : Int) < (l.length : Int) := by omega
      obtain ⟨t, ht⟩ : ∃ t, l[k] = t := ⟨_, rfl⟩
      rw [ht] at c0 c1 c2 c0' c1' c2'
      have d0 : wr.cell? ⟨g, k * 3, none⟩ = some (.string t.name) := (hbel.cell (p := ⟨g, _, none⟩) hg).trans c0
      have d1 : wr.cell? ⟨g, k * 3 + 1, none⟩ = some (.int .i64 t.start) := (hbel.cell (p := ⟨g, _, none⟩) hg).trans c1
      have d2 : wr.cell? ⟨g, k * 3 + 2, none⟩ = some (.int .i64 t.size) := (hbel.cell (p := ⟨g, _, none⟩) hg).trans c2
      have d0' : wr.cell? ⟨g', k * 3, none⟩ = some (.string t.name) := (hbel.cell (p := ⟨g', _, none⟩) hg').trans c0'
      have d1' : wr.cell? ⟨g', k * 3 + 1, none⟩ = some (.int .i64 t.start) := (hbel.cell (p := ⟨g', _, none⟩) hg').trans c1'
      have d2' : wr.cell? ⟨g', k * 3 + 2, none⟩ = some (.int .i64 t.size) := (hbel.cell (p := ⟨g', _, none⟩) hg').trans c2'
      have gw : g < wr.heap.size := by omega
      have gw' : g' < wr.heap.size := by omega
      clear HA HB c0 c1 c2 c0' c1' c2' ht hbel
      go_wp2_with fail
      go_region_held3 (fun w' => w'.cell? ⟨g, k * 3, none⟩ = some (.string t.name) ∧ w'.cell? ⟨g, k * 3 + 1, none⟩ = some (.int .i64 t.start) ∧ w'.cell? ⟨g, k * 3 + 2, none⟩ = some (.int .i64 t.size) ∧
          w'.cell? ⟨g', k * 3, none⟩ = some (.string t.name) ∧ w'.cell? ⟨g', k * 3 + 1, none⟩ = some (.int .i64 t.start) ∧ w'.cell? ⟨g', k * 3 + 2, none⟩ = some (.int .i64 t.size))
        (first
          | go_keep
          | (go_split_ands
             refine ⟨(b1.cell (p := ⟨g, _, none⟩) gw).trans ?_, (b1.cell (p := ⟨g, _, none⟩) gw).trans ?_, (b1.cell (p := ⟨g, _, none⟩) gw).trans ?_, (b1.cell (p := ⟨g', _, none⟩) gw').trans ?_, (b1.cell (p := ⟨g', _, none⟩) gw').trans ?_, (b1.cell (p := ⟨g', _, none⟩) gw').trans ?_⟩ <;> assumption))
        (first
        | (go_at_call 68; refine (l_eqSymbol _ _ _ _).mono ?_; rintro e w1 ⟨rfl, b1⟩))
      all_goals
        have HB1 := Lib.hid (HBE.out.drew.trans (b1.mono hB))
        clear b1
        go_wp2
        go_roundw
        case rel => exact ⟨k + 1, by omega, by go_num, HB1.out⟩
        case measure => simp [intOf]; omega
    · go_wp2
      go_ret
      exact ⟨rfl, HBE.out⟩
end Go.Proofs.Ytcflojdkaddemaa
