/- The laws' own functions on rows of rules: equality. -/
import Derived.Test.YtfemkbdgbpgjgaaRows
import Derived.Test.YtfemkbdgbpgjgaaRuPlain
import Derived.Laws.MakeOwn
import Derived.Deep.QuietTactic
import Derived.BigQuiet
import Derived.Outline
import Derived.Lib.Hide
import Derived.Below
import Derived.Deep.RegionHeld3
namespace Go.Proofs.Ytfemkbdgbpgjgaa
open Go.RowKit Go.Lib

theorem l_eqRule (start : Int) (stop : Int) (frame : Bool) (depth : Int) (w : World) :
    Calls Try.prog 61 #[.agg #[.int .i64 start, .int .i64 stop, .bool frame, .int .i64 depth], .agg #[.int .i64 start, .int .i64 stop, .bool frame, .int .i64 depth]] w fun e w' => e = .returned (.bool true) ∧ Below w.heap.size w w' := by
  go_enter Try.func61, Try.ntmps61
  go_wp2
  go_ret
  exact ⟨rfl, ((Below.refl _ _).alloc (Nat.le_refl _) _).alloc (by simp) _⟩
set_option maxHeartbeats 1000000 in
theorem l_eqRuleS (a b : Option Addr) (c d : Nat) (l : List RuL) (w : World) (ha : ReadRu w a l) (hb : ReadRu w b l) (hl : l.length ≤ 1048576) :
    Calls Try.prog 45 #[.slice a l.length c, .slice b l.length d] w fun e w' => e = .returned (.bool true) ∧ Below w.heap.size w w' := by
  have HA := Lib.hid ha
  have HB := Lib.hid hb
  clear ha hb
  go_enter Try.func45, Try.ntmps45
  go_wp2_with fail
  go_loopw [5] (fun i wr => ∃ (k : Nat), k ≤ l.length ∧ i = .int .i64 (k : Int) ∧ Below w.heap.size w wr) (fun i _ => l.length - (intOf i).toNat)
  case atStart => exact ⟨0, Nat.zero_le _, rfl, Below.refl _ _⟩
  case round =>
    obtain ⟨k, hk, rfl, hbel⟩ := hrel
    have HBE := Lib.hid hbel
    have hB := hbel.size
    by_cases hlt : k < l.length
    · obtain ⟨g, rfl, hg, c0, c1, c2, c3⟩ := HA.out k hlt
      obtain ⟨g', rfl, hg', c0', c1', c2', c3'⟩ := HB.out k hlt
      have k0 : (0 : Int) ≤ (k : Int) := by omega
      have k1 : (k : Int) < (l.length : Int) := by omega
      obtain ⟨t, ht⟩ : ∃ t, l[k] = t := ⟨_, rfl⟩
      rw [ht] at c0 c1 c2 c3 c0' c1' c2' c3'
      have d0 : wr.cell? ⟨g, k * 4, none⟩ = some (.int .i64 t.start) := (hbel.cell (p := ⟨g, _, none⟩) hg).trans c0
      have d1 : wr.cell? ⟨g, k * 4 + 1, none⟩ = some (.int .i64 t.stop) := (hbel.cell (p := ⟨g, _, none⟩) hg).trans c1
      have d2 : wr.cell? ⟨g, k * 4 + 2, none⟩ = some (.bool t.frame) := (hbel.cell (p := ⟨g, _, none⟩) hg).trans c2
      have d3 : wr.cell? ⟨g, k * 4 + 3, none⟩ = some (.int .i64 t.depth) := (hbel.cell (p := ⟨g, _, none⟩) hg).trans c3
      have d0' : wr.cell? ⟨g', k * 4, none⟩ = some (.int .i64 t.start) := (hbel.cell (p := ⟨g', _, none⟩) hg').trans c0'
      have d1' : wr.cell? ⟨g', k * 4 + 1, none⟩ = some (.int .i64 t.stop) := (hbel.cell (p := ⟨g', _, none⟩) hg').trans c1'
      have d2' : wr.cell? ⟨g', k * 4 + 2, none⟩ = some (.bool t.frame) := (hbel.cell (p := ⟨g', _, none⟩) hg').trans c2'
      have d3' : wr.cell? ⟨g', k * 4 + 3, none⟩ = some (.int .i64 t.depth) := (hbel.cell (p := ⟨g', _, none⟩) hg').trans c3'
      have gw : g < wr.heap.size := by omega
      have gw' : g' < wr.heap.size := by omega
      clear HA HB c0 c1 c2 c3 c0' c1' c2' c3' ht hbel
      go_wp2_with fail
      go_region_held3 (fun w' => w'.cell? ⟨g, k * 4, none⟩ = some (.int .i64 t.start) ∧ w'.cell? ⟨g, k * 4 + 1, none⟩ = some (.int .i64 t.stop) ∧ w'.cell? ⟨g, k * 4 + 2, none⟩ = some (.bool t.frame) ∧ w'.cell? ⟨g, k * 4 + 3, none⟩ = some (.int .i64 t.depth) ∧ w'.cell? ⟨g', k * 4, none⟩ = some (.int .i64 t.start) ∧ w'.cell? ⟨g', k * 4 + 1, none⟩ = some (.int .i64 t.stop) ∧ w'.cell? ⟨g', k * 4 + 2, none⟩ = some (.bool t.frame) ∧ w'.cell? ⟨g', k * 4 + 3, none⟩ = some (.int .i64 t.depth))
        (first
          | go_keep
          | (go_split_ands
             refine ⟨(b1.cell (p := ⟨g, _, none⟩) gw).trans ?_, (b1.cell (p := ⟨g, _, none⟩) gw).trans ?_, (b1.cell (p := ⟨g, _, none⟩) gw).trans ?_, (b1.cell (p := ⟨g, _, none⟩) gw).trans ?_, (b1.cell (p := ⟨g', _, none⟩) gw').trans ?_, (b1.cell (p := ⟨g', _, none⟩) gw').trans ?_, (b1.cell (p := ⟨g', _, none⟩) gw').trans ?_, (b1.cell (p := ⟨g', _, none⟩) gw').trans ?_⟩ <;> assumption))
        (first
        | (go_at_call 61; refine (l_eqRule _ _ _ _ _).mono ?_; rintro e w1 ⟨rfl, b1⟩))
      all_goals
        have HB1 := Lib.hid (HBE.out.drew.trans (b1.mono hB))
        clear b1
        go_wp2
        go_roundw
        case rel => exact ⟨k + 1, by omega, by go_num, HB1.out⟩
        case measure => simp [intOf]; omega
    · go_wp2
      go_ret
      exact ⟨rfl, HBE.out⟩
end Go.Proofs.Ytfemkbdgbpgjgaa
