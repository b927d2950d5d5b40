/- The laws' sameToks: rows that hold the same tokens. -/
import Derived.Test.YtbdplcbmfcfigaaDoorTokNeq
import Derived.Deep.QuietTactic
import Derived.BigQuiet
import Derived.Deep.RegionHeld3
namespace Go.Proofs.YtbdplcbmfcfigaaDoor
open Go.RowKit Go.Lib

theorem belowN {B : Nat} {a w : World} (h : Below B a w) (n : Nat) : Below B a (w.drewN n) := ⟨h.os, h.tape, h.output, h.size, h.block⟩
set_option maxHeartbeats 1000000 in
theorem l_sameToks (a b : Option Addr) (c d : Nat) (l : List TokL) (w : World) (ha : ReadT w a l) (hb : ReadT w b l) (hl : l.length ≤ 1048576) :
    Calls Tryd.prog 11 #[.slice a l.length c, .slice b l.length d] w fun e w' => e = .returned (.bool true) ∧ Below w.heap.size w w' := by
  have HA := Lib.hid ha
  have HB := Lib.hid hb
  clear ha hb
  go_enter Tryd.func11, Tryd.ntmps11
  go_wp2_with fail
  go_loopw [5] (fun i wr => ∃ (k : Nat), k ≤ l.length ∧ i = .int .i64 (k : Int) ∧ Below w.heap.size w wr) (fun i _ => l.length - (intOf i).toNat)
  case atStart => exact ⟨0, Nat.zero_le _, rfl, Below.refl _ _⟩
  case round =>
    obtain ⟨k, hk, rfl, hbel⟩ := hrel
    have HBE := Lib.hid hbel
    have hB := hbel.size
    by_cases hlt : k < l.length
    · obtain ⟨g, rfl, hg, c0, c1, c2⟩ := HA.out k hlt
      obtain ⟨g', rfl, hg', c0', c1', c2'⟩ := HB.out k hlt
      have k0 : (0 : Int) ≤ (k : Int) := by omega
      have k1 : (k : Int) < (l.length : Int) := by omega
      obtain ⟨t, ht⟩ : ∃ t, l[k] = t := ⟨_, rfl⟩
      rw [ht] at c0 c1 c2 c0' c1' c2'
      have d0 : wr.cell? ⟨g, k * 3, none⟩ = some (.int .i64 t.kind) := (hbel.cell (p := ⟨g, _, none⟩) hg).trans c0
      have d1 : wr.cell? ⟨g, k * 3 + 1, none⟩ = some (.int .i64 t.num) := (hbel.cell (p := ⟨g, _, none⟩) hg).trans c1
      have d2 : wr.cell? ⟨g, k * 3 + 2, none⟩ = some (.string t.name) := (hbel.cell (p := ⟨g, _, none⟩) hg).trans c2
      have d0' : wr.cell? ⟨g', k * 3, none⟩ = some (.int .i64 t.kind) := (hbel.cell (p := ⟨g', _, none⟩) hg').trans c0'
      have d1' : wr.cell? ⟨g', k * 3 + 1, none⟩ = some (.int .i64 t.num) := (hbel.cell (p := ⟨g', _, none⟩) hg').trans c1'
      have d2' : wr.cell? ⟨g', k * 3 + 2, none⟩ = some (.string t.name) := (hbel.cell (p := ⟨g', _, none⟩) hg').trans c2'
      have hne : ∀ W, (binOp .neq 32 (.agg #[.int .i64 t.kind, .int .i64 t.num, .string t.name]) (.agg #[.int .i64 t.kind, .int .i64 t.num, .string t.name])).run Tryd.prog W = .ok (.bool false) W := fun W => by rw [tok_neq t t W, sameT_self]; rfl
      clear HA HB c0 c1 c2 c0' c1' c2' ht hbel
      go_wp2_with fail
      go_quiet (fail)
      all_goals
        go_wp2
        go_roundw
        case rel => exact ⟨k + 1, by omega, by go_num, belowN HBE.out _⟩
        case measure => simp [intOf]; omega
    · go_wp2
      go_ret
      exact ⟨rfl, HBE.out⟩
end Go.Proofs.YtbdplcbmfcfigaaDoor
