/- The laws' own functions on rows of rules: the size, and the program's row made of it. -/
import Derived.Test.YtfemkbdgbpgjgaaRows
import Derived.Test.YtfemkbdgbpgjgaaMakeRowN
import Derived.Test.YtfemkbdgbpgjgaaRuPlain
import Derived.Laws.MakeOwn
import Derived.Deep.QuietTactic
import Derived.BigQuiet
import Derived.Outline
import Derived.Lib.Hide
import Derived.Below
import Derived.Deep.RegionHeld3
namespace Go.Proofs.Ytfemkbdgbpgjgaa
open Go.RowKit Go.Lib

theorem infoRu : (Try.prog.info? 61).map (fun i => (i.zero, i.size, i.bytes)) = some (some (.agg #[.int .i64 0, .int .i64 0, .bool false, .int .i64 0]), 4, 32) := by kernel_rfl
set_option maxHeartbeats 1000000 in
theorem l_szRuleS (a : Option Addr) (cap n : Nat) (left : Int) (w : World) (h0 : 0 ≤ left) (h1 : left ≤ 1048576) (hm : n ≤ maxLen) :
    Calls Try.prog 42 #[.slice a n cap, .int .i64 left] w fun e w' => ∃ r : Int, e = .returned (.int .i64 r) ∧ w = w' ∧ (r = -1 ∨ (0 ≤ r ∧ r + (n : Int) ≤ left)) := by
  unfold maxLen at hm
  by_cases hbig : left < (n : Int)
  · have hd : decide (left - (n : Int) < 0) = true := by simp; omega
    go_enter Try.func42, Try.ntmps42
    go_wp2
    all_goals go_ret
    all_goals exact ⟨-1, rfl, rfl, .inl rfl⟩
  · have hd : decide (left - (n : Int) < 0) = false := by simp; omega
    go_enter Try.func42, Try.ntmps42
    go_wp2
    all_goals go_ret
    all_goals exact ⟨left - (n : Int), rfl, rfl, .inr ⟨by omega, by omega⟩⟩
theorem l_toRule (start : Int) (stop : Int) (frame : Bool) (depth : Int) (w : World) :
    Calls Try.prog 60 #[.agg #[.int .i64 start, .int .i64 stop, .bool frame, .int .i64 depth]] w fun e w' => e = .returned (.agg #[.int .i64 start, .int .i64 stop, .bool frame, .int .i64 depth]) ∧ Below w.heap.size w w' := by
  go_enter Try.func60, Try.ntmps60
  go_wp2
  refine bodyPost_ret (v := .agg #[.int .i64 start, .int .i64 stop, .bool frame, .int .i64 depth]) (by simp [results, Try.results60, go_sem]) rfl ⟨rfl, ?_⟩
  exact (((Below.refl _ _).alloc (Nat.le_refl _) _).alloc (by simp) _).alloc (by simp; omega) _
set_option maxHeartbeats 1000000 in
theorem l_toRuleS (a : Option Addr) (cap : Nat) (l : List RuL) (w : World) (hl : l.length ≤ 1048576) (ha : ArgRu w a l) :
    Calls Try.prog 44 #[.slice a l.length cap] w (RuRow 61 w.heap.size l w) := by
  have HA := Lib.hid ha
  clear ha
  obtain ⟨i0, hi, hz0, hz1, hz2⟩ := info_parts infoRu
  have hmk := fun W => run_make_rowN (P := Try.prog) 37 61 i0 _ 4 32 Try.underlying37 hi hz0 hz1 hz2 .i64 .i64 l.length l.length (Nat.le_refl _) (by omega) (by omega) W
  obtain ⟨cs, hcs⟩ : ∃ cs, madeCells (Value.agg #[.int .i64 0, .int .i64 0, .bool false, .int .i64 0]).cells (l.length * 4) = cs := ⟨_, rfl⟩
  have hcsz : cs.size = l.length * 4 := by rw [← hcs, size_madeCells]
  rw [hcs] at hmk
  clear hcs hi hz0 hz1 hz2
  have HZ := Lib.hid hcsz
  clear hcsz
  go_enter Try.func44, Try.ntmps44
  go_wp2_with fail
  clear hmk
  go_loopw [4] (fun i wr => ∃ (k : Nat) (R : List Value), k ≤ l.length ∧ i = .int .i64 (k : Int) ∧ R.length = (l.length - k) * 4 ∧ wr.ownsRow w.heap.size 61 4 (.slice (some ⟨w.heap.size, 0, none⟩) l.length l.length) l.length (headRu k l R) ∧ Below w.heap.size w wr) (fun i _ => l.length - (intOf i).toNat)
  case atStart => exact ⟨0, cs.toList, Nat.zero_le _, rfl, by simpa using HZ.out, World.ownsRow_lit _ _ _ (Nat.le_refl _) (by unfold maxLen; omega) HZ.out, (Below.refl _ _).alloc (Nat.le_refl _) _⟩
  case round =>
    obtain ⟨k, R, hk, rfl, hR, hown, hbel⟩ := hrel
    have HO := Lib.hid hown
    have HB := Lib.hid hbel
    have hB := hbel.size
    have hgl : w.heap.size < wr.heap.size := (hown.lt w.heap.size rfl).2
    clear hown
    by_cases hlt : k < l.length
    · obtain ⟨x, rfl, hx, c0, c1, c2, c3, _⟩ := HA.out k hlt
      obtain ⟨y0, y1, y2, y3, R', hRe, hR'⟩ := cutRu R (l.length - (k + 1)) (by rw [hR]; congr 1; omega)
      subst hRe
      have HR' := Lib.hid hR'
      have HS := Lib.hid (headRu_set k l hlt y0 y1 y2 y3 R')
      obtain ⟨t, ht⟩ : ∃ t, l[k] = t := ⟨_, rfl⟩
      rw [ht] at c0 c1 c2 c3 HS
      have d0 : wr.cell? (x.add (k * 4)) = some (.int .i64 t.start) := (hbel.cell (by rw [addr_block]; exact hx)).trans c0
      have d1 : wr.cell? ⟨(x.add (k * 4)).block, (x.add (k * 4)).off + 1, none⟩ = some (.int .i64 t.stop) := (hbel.cell (p := ⟨_, _, none⟩) (by rw [addr_block]; exact hx)).trans c1
      have d2 : wr.cell? ⟨(x.add (k * 4)).block, (x.add (k * 4)).off + 2, none⟩ = some (.bool t.frame) := (hbel.cell (p := ⟨_, _, none⟩) (by rw [addr_block]; exact hx)).trans c2
      have d3 : wr.cell? ⟨(x.add (k * 4)).block, (x.add (k * 4)).off + 3, none⟩ = some (.int .i64 t.depth) := (hbel.cell (p := ⟨_, _, none⟩) (by rw [addr_block]; exact hx)).trans c3
      have k0 : (0 : Int) ≤ (k : Int) := by omega
      have k1 : (k : Int) < (l.length : Int) := by omega
      clear c0 c1 c2 c3 hbel ht hR hR'
      go_wp2_with fail
      refine (l_toRule t.start t.stop t.frame t.depth _).mono ?_
      rintro e w1 ⟨rfl, b1⟩
      have HO1 : Hid (w1.ownsRow w.heap.size 61 4 (.slice (some ⟨w.heap.size, 0, none⟩) l.length l.length) l.length (headRu k l (y0 :: y1 :: y2 :: y3 :: R'))) := Lib.hid (owns_blks HO.out (fun g hg => b1.block g (HO.out.lt g hg).2))
      have HB1 := Lib.hid (HB.out.trans (b1.mono hB))
      have hs1 := b1.size
      clear b1 d0 d1 d2 d3
      have hlen : (headRu k l (y0 :: y1 :: y2 :: y3 :: R')).length = l.length * 4 := HO1.out.1
      have cellk : ∀ i, i < 4 → ∃ y, w1.cell? ⟨w.heap.size, k * 4 + i, none⟩ = some y := fun i hi => by
        have := HO1.out.cellAt (k * 4 + i) (by omega)
        rw [this]
        exact ⟨_, List.getElem?_eq_getElem (by omega)⟩
      obtain ⟨z0, e0⟩ := cellk 0 (by omega)
      rw [Nat.add_zero] at e0
      obtain ⟨z1, e1⟩ := cellk 1 (by omega)
      obtain ⟨z2, e2⟩ := cellk 2 (by omega)
      obtain ⟨z3, e3⟩ := cellk 3 (by omega)
      have fr := HO1.out.frozenAt
      have S1 := HO1.out.stored (k * 4) (.int .i64 t.start)
      have S2 := S1.1.stored (k * 4 + 1) (.int .i64 t.stop)
      have S3 := S2.1.stored (k * 4 + 2) (.bool t.frame)
      have S4 := S3.1.stored (k * 4 + 3) (.int .i64 t.depth)
      have HO2 := Lib.hid (HS.out ▸ S4.1)
      have HG := Lib.hid ((((S1.2).trans S2.2).trans S3.2).trans S4.2)
      have HB2 := Lib.hid (HB1.out.grown HG.out (by omega) (fun j hj => by injection hj with e; omega))
      clear cellk hlen S1 S2 S3 S4
      go_wp2
      go_roundw
      case rel => exact ⟨k + 1, R', by omega, by go_num, HR'.out, HO2.out, HB2.out⟩
      case measure => simp [intOf]; omega
    · have hkk : k = l.length := by omega
      subst hkk
      have hR0 : R = [] := List.length_eq_zero_iff.1 (by rw [hR]; simp)
      subst hR0
      go_wp2
      go_ret
      exact ⟨_, rfl, by have := HO.out; unfold headRu at this; rw [List.take_of_length_le (Nat.le_refl _), List.append_nil] at this; exact this, HB.out⟩
end Go.Proofs.Ytfemkbdgbpgjgaa
