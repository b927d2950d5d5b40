/- Plain facts: The laws' own functions on one token: its size, and the program's token made of it; The laws' own functions on rows of symbols: the size, and the program's row made of it; The laws' toSymbolS: the program's row made of the argument; The laws' eqSymbolS: two rows that hold the same symbols are equal. Nothing of the program. -/
import Derived.Test.YtljmkkodhnkemaaRows
import Derived.Test.YtljmkkodhnkemaaImgPlain
import Derived.Test.YtljmkkodhnkemaaMakeRowN
import Derived.Outline
import Derived.Lib.Hide
import Derived.Below
import Derived.Laws.MakeOwn
import Derived.Deep.QuietTactic
import Derived.BigQuiet
import Derived.Deep.RegionHeld3
/-! The laws' own functions on one token: its size, and the program's token made of it -/
namespace Go.Proofs.Ytljmkkodhnkemaa
open Go.RowKit Go.Lib

theorem infoSy : (Try.prog.info? 66).map (fun i => (i.zero, i.size, i.bytes)) = some (some (.agg #[.string ⟨#[]⟩, .int .i64 0, .int .i64 0]), 3, 32) := by kernel_rfl
theorem l_szSymbol (s : ByteArray) (k n : Int) (left : Int) (w : World) (hm : s.size ≤ maxLen) (h0 : 0 ≤ left) (h1 : left ≤ 1048576) (h2 : (s.size : Int) ≤ left) :
    Calls Try.prog 54 #[.agg #[.string s, .int .i64 k, .int .i64 n], .int .i64 left] w fun e w' => e = .returned (.int .i64 (left - (s.size : Int))) ∧ Below w.heap.size w w' := by
  unfold maxLen at hm
  go_enter Try.func54, Try.ntmps54
  go_wp2
  all_goals go_ret
  all_goals exact ⟨rfl, (Below.refl _ _).alloc (Nat.le_refl _) _⟩
theorem l_szSymbol_big (s : ByteArray) (k n : Int) (left : Int) (w : World) (hm : s.size ≤ maxLen) (h0 : 0 ≤ left) (h1 : left ≤ 1048576) (h2 : left < (s.size : Int)) :
    Calls Try.prog 54 #[.agg #[.string s, .int .i64 k, .int .i64 n], .int .i64 left] w fun e w' => e = .returned (.int .i64 (-1)) ∧ Below w.heap.size w w' := by
  unfold maxLen at hm
  go_enter Try.func54, Try.ntmps54
  go_wp2
  all_goals go_ret
  all_goals exact ⟨rfl, (Below.refl _ _).alloc (Nat.le_refl _) _⟩

theorem l_toSymbol (s : ByteArray) (k n : Int) (w : World) :
    Calls Try.prog 56 #[.agg #[.string s, .int .i64 k, .int .i64 n]] w fun e w' => e = .returned (.agg #[.string s, .int .i64 k, .int .i64 n]) ∧ Below w.heap.size w w' := by
  go_enter Try.func56, Try.ntmps56
  go_wp2
  refine bodyPost_ret (v := .agg #[.string s, .int .i64 k, .int .i64 n]) (by simp [results, Try.results56, go_sem]) rfl ⟨rfl, ?_⟩
  exact (((Below.refl _ _).alloc (Nat.le_refl _) _).alloc (by simp) _).alloc (by simp; omega) _
end Go.Proofs.Ytljmkkodhnkemaa

/-! The laws' own functions on rows of symbols: the size, and the program's row made of it -/
namespace Go.Proofs.Ytljmkkodhnkemaa
open Go.RowKit Go.Lib

/-- The measure that the laws take: -1, or all is small and what is left. -/
def SzSy (l : List SyL) (left : Int) (w : World) (e : Ending) (w' : World) : Prop :=
  ∃ r : Int, e = .returned (.int .i64 r) ∧ Below w.heap.size w w' ∧ (r = -1 ∨ (0 ≤ r ∧ r + ((l.length : Int) + (sumSy l : Int)) ≤ left))

set_option maxHeartbeats 1000000 in
theorem l_szSymbolS (a : Option Addr) (cap : Nat) (l : List SyL) (left : Int) (w : World) (hm : l.length ≤ maxLen) (ha : ArgSy w a l) (h0 : 0 ≤ left) (h1 : left ≤ 1048576) :
    Calls Try.prog 44 #[.slice a l.length cap, .int .i64 left] w (SzSy l left w) := by
  have HA := Lib.hid ha
  clear ha
  unfold maxLen at hm
  by_cases hbig : left < (l.length : Int)
  · have hd : decide (left - (l.length : Int) < 0) = true := by simp; omega
    go_enter Try.func44, Try.ntmps44
    go_wp2
    all_goals go_ret
    all_goals exact ⟨-1, rfl, Below.refl _ _, .inl rfl⟩
  have hd : decide (left - (l.length : Int) < 0) = false := by simp; omega
  have g0 : 0 ≤ left - (l.length : Int) := by omega
  go_enter Try.func44, Try.ntmps44
  go_wp2_with fail
  clear hd
  go_loopw [1, 5] (fun x i wr => ∃ k : Nat, k ≤ l.length ∧ i = .int .i64 (k : Int) ∧ x = .int .i64 (left - (l.length : Int) - (sumSy (l.take k) : Int)) ∧ (l.length : Int) + (sumSy (l.take k) : Int) ≤ left ∧ Below w.heap.size w wr) (fun _ i _ => l.length - (intOf i).toNat)
  case atStart => exact ⟨0, Nat.zero_le _, rfl, by simp [sumSy], by simp [sumSy]; omega, Below.refl _ _⟩
  case round =>
    obtain ⟨k, hk, rfl, rfl, hle, hbel⟩ := hrel
    have HB := Lib.hid hbel
    have hB := hbel.size
    obtain ⟨r, hr⟩ : ∃ r : Int, left - (l.length : Int) - (sumSy (l.take k) : Int) = r := ⟨_, rfl⟩
    have hr0 : 0 ≤ r := by omega
    have hr1 : r ≤ 1048576 := by omega
    by_cases hlt : k < l.length
    · obtain ⟨x, rfl, hx, c0, c1, c2, hsz, _, _⟩ := HA.out k hlt
      have HS := Lib.hid (sumSy_snoc l k hlt)
      obtain ⟨t, ht⟩ : ∃ t, l[k] = t := ⟨_, rfl⟩
      rw [ht] at c0 c1 c2 hsz HS
      have d0 : wr.cell? (x.add (k * 3)) = some (.string t.name) := (hbel.cell (by rw [addr_block]; exact hx)).trans c0
      have d1 : wr.cell? ⟨(x.add (k * 3)).block, (x.add (k * 3)).off + 1, none⟩ = some (.int .i64 t.start) := (hbel.cell (p := ⟨_, _, none⟩) (by rw [addr_block]; exact hx)).trans c1
      have d2 : wr.cell? ⟨(x.add (k * 3)).block, (x.add (k * 3)).off + 2, none⟩ = some (.int .i64 t.size) := (hbel.cell (p := ⟨_, _, none⟩) (by rw [addr_block]; exact hx)).trans c2
      have k0 : (0 : Int) ≤ (k : Int) := by omega
      have k1 : (k : Int) < (l.length : Int) := by omega
      have HR := Lib.hid hr
      rw [hr]
      clear c0 c1 c2 hbel hr ht
      by_cases hs : (t.name.size : Int) ≤ r
      · go_wp2_with fail
        refine (l_szSymbol t.name t.start t.size r _ hsz hr0 hr1 hs).mono ?_
        rintro e w1 ⟨rfl, b1⟩
        have HB1 := Lib.hid (HB.out.trans (b1.mono hB))
        clear b1
        have hd : decide (r - (t.name.size : Int) < 0) = false := by simp; omega
        go_wp2
        go_roundw
        case rel => exact ⟨k + 1, by omega, by go_num, by rw [HS.out, ← HR.out]; go_num, by rw [HS.out]; have := HR.out; omega, HB1.out⟩
        case measure => simp [intOf]; omega
      · have hs' : r < (t.name.size : Int) := by omega
        go_wp2_with fail
        refine (l_szSymbol_big t.name t.start t.size r _ hsz hr0 hr1 hs').mono ?_
        rintro e w1 ⟨rfl, b1⟩
        have HB1 := Lib.hid (HB.out.trans (b1.mono hB))
        clear b1
        go_wp2
        go_ret
        exact ⟨-1, rfl, HB1.out, .inl rfl⟩
    · have hkk : k = l.length := by omega
      subst hkk
      have HS := Lib.hid (sumSy_all l)
      have HR := Lib.hid hr
      rw [hr]
      clear hr
      go_wp2
      go_ret
      exact ⟨r, rfl, HB.out, .inr ⟨hr0, by have := HR.out; have := HS.out; omega⟩⟩
end Go.Proofs.Ytljmkkodhnkemaa

/-! The laws' toSymbolS: the program's row made of the argument -/
namespace Go.Proofs.Ytljmkkodhnkemaa
open Go.RowKit Go.Lib

set_option maxHeartbeats 1000000 in
theorem l_toSymbolS (a : Option Addr) (cap : Nat) (l : List SyL) (w : World) (hl : l.length ≤ 1048576) (ha : ArgSy w a l) :
    Calls Try.prog 47 #[.slice a l.length cap] w (Syms 66 w.heap.size l w) := by
  have HA := Lib.hid ha
  clear ha
  obtain ⟨i0, hi, hz0, hz1, hz2⟩ := info_parts infoSy
  have hmk := fun W => run_make_rowN (P := Try.prog) 59 66 i0 _ 3 32 Try.underlying59 hi hz0 hz1 hz2 .i64 .i64 l.length l.length (Nat.le_refl _) (by omega) (by omega) W
  obtain ⟨cs, hcs⟩ : ∃ cs, madeCells (Value.agg #[.string ⟨#[]⟩, .int .i64 0, .int .i64 0]).cells (l.length * 3) = cs := ⟨_, rfl⟩
  have hcsz : cs.size = l.length * 3 := by rw [← hcs, size_madeCells]
  rw [hcs] at hmk
  clear hcs hi hz0 hz1 hz2
  have HZ := Lib.hid hcsz
  clear hcsz
  go_enter Try.func47, Try.ntmps47
  go_wp2_with fail
  clear hmk
  go_loopw [4] (fun i wr => ∃ (k : Nat) (R : List Value), k ≤ l.length ∧ i = .int .i64 (k : Int) ∧ R.length = (l.length - k) * 3 ∧ wr.ownsRow w.heap.size 66 3 (.slice (some ⟨w.heap.size, 0, none⟩) l.length l.length) l.length (headSy k l R) ∧ Below w.heap.size w wr) (fun i _ => l.length - (intOf i).toNat)
  case atStart => exact ⟨0, cs.toList, Nat.zero_le _, rfl, by simpa using HZ.out, World.ownsRow_lit _ _ _ (Nat.le_refl _) (by unfold maxLen; omega) HZ.out, (Below.refl _ _).alloc (Nat.le_refl _) _⟩
  case round =>
    obtain ⟨k, R, hk, rfl, hR, hown, hbel⟩ := hrel
    have HO := Lib.hid hown
    have HB := Lib.hid hbel
    have hB := hbel.size
    have hgl : w.heap.size < wr.heap.size := (hown.lt w.heap.size rfl).2
    clear hown
    by_cases hlt : k < l.length
    · obtain ⟨x, rfl, hx, c0, c1, c2, hsz, _, _⟩ := HA.out k hlt
      obtain ⟨y0, y1, y2, R', hRe, hR'⟩ := three R (l.length - (k + 1)) (by rw [hR]; congr 1; omega)
      subst hRe
      have HR' := Lib.hid hR'
      have HS := Lib.hid (headSy_set k l hlt y0 y1 y2 R')
      obtain ⟨t, ht⟩ : ∃ t, l[k] = t := ⟨_, rfl⟩
      rw [ht] at c0 c1 c2 HS
      have d0 : wr.cell? (x.add (k * 3)) = some (.string t.name) := (hbel.cell (by rw [addr_block]; exact hx)).trans c0
      have d1 : wr.cell? ⟨(x.add (k * 3)).block, (x.add (k * 3)).off + 1, none⟩ = some (.int .i64 t.start) := (hbel.cell (p := ⟨_, _, none⟩) (by rw [addr_block]; exact hx)).trans c1
      have d2 : wr.cell? ⟨(x.add (k * 3)).block, (x.add (k * 3)).off + 2, none⟩ = some (.int .i64 t.size) := (hbel.cell (p := ⟨_, _, none⟩) (by rw [addr_block]; exact hx)).trans c2
      have k0 : (0 : Int) ≤ (k : Int) := by omega
      have k1 : (k : Int) < (l.length : Int) := by omega
      clear c0 c1 c2 hbel ht hR hR' hsz
      go_wp2_with fail
      refine (l_toSymbol t.name t.start t.size _).mono ?_
      rintro e w1 ⟨rfl, b1⟩
      have HO1 := Lib.hid (owns3_below HO.out b1)
      have HB1 := Lib.hid (HB.out.trans (b1.mono hB))
      have hs1 := b1.size
      clear b1 d0 d1 d2
      have hlen : (headSy k l (y0 :: y1 :: y2 :: R')).length = l.length * 3 := HO1.out.1
      have cellk : ∀ i, i < 3 → ∃ y, w1.cell? ⟨w.heap.size, k * 3 + i, none⟩ = some y := fun i hi => by
        have := HO1.out.cellAt (k * 3 + i) (by omega)
        rw [this]
        exact ⟨_, List.getElem?_eq_getElem (by omega)⟩
      obtain ⟨z0, e0⟩ := cellk 0 (by omega)
      rw [Nat.add_zero] at e0
      obtain ⟨z1, e1⟩ := cellk 1 (by omega)
      obtain ⟨z2, e2⟩ := cellk 2 (by omega)
      have fr := HO1.out.frozenAt
      have S1 := HO1.out.stored (k * 3) (.string t.name)
      have S2 := S1.1.stored (k * 3 + 1) (.int .i64 t.start)
      have S3 := S2.1.stored (k * 3 + 2) (.int .i64 t.size)
      have HO2 := Lib.hid (HS.out ▸ S3.1)
      have HB2 := Lib.hid (((HB1.out.grown S1.2 (by omega) (fun j hj => by injection hj with e; omega)).grown S2.2 (by simp [World.setCell]; omega) (fun j hj => by injection hj with e; omega)).grown S3.2 (by simp [World.setCell]; omega) (fun j hj => by injection hj with e; omega))
      clear cellk hlen S1 S2 S3
      go_wp2
      go_roundw
      case rel => exact ⟨k + 1, R', by omega, by go_num, HR'.out, HO2.out, HB2.out⟩
      case measure => simp [intOf]; omega
    · have hkk : k = l.length := by omega
      subst hkk
      have hR0 : R = [] := List.length_eq_zero_iff.1 (by rw [hR]; simp)
      subst hR0
      go_wp2
      go_ret
      exact ⟨_, rfl, by have := HO.out; unfold headSy at this; rw [List.take_of_length_le (Nat.le_refl _), List.append_nil] at this; exact this, HB.out⟩
end Go.Proofs.Ytljmkkodhnkemaa

/-! The laws' eqSymbolS: two rows that hold the same symbols are equal -/
namespace Go.Proofs.Ytljmkkodhnkemaa
open Go.RowKit Go.Lib

theorem l_eqSymbol (s : ByteArray) (k n : Int) (w : World) :
    Calls Try.prog 61 #[.agg #[.string s, .int .i64 k, .int .i64 n], .agg #[.string s, .int .i64 k, .int .i64 n]] w fun e w' => e = .returned (.bool true) ∧ Below w.heap.size w w' := by
  go_enter Try.func61, Try.ntmps61
  go_wp2
  go_ret
  exact ⟨rfl, ((Below.refl _ _).alloc (Nat.le_refl _) _).alloc (by simp) _⟩

set_option maxHeartbeats 1000000 in
theorem l_eqSymbolS (a b : Option Addr) (c d : Nat) (l : List SyL) (w : World) (ha : ReadSy w a l) (hb : ReadSy w b l) (hl : l.length ≤ 1048576) :
    Calls Try.prog 53 #[.slice a l.length c, .slice b l.length d] w fun e w' => e = .returned (.bool true) ∧ Below w.heap.size w w' := by
  have HA := Lib.hid ha
  have HB := Lib.hid hb
  clear ha hb
  go_enter Try.func53, Try.ntmps53
  go_wp2_with fail
  go_loopw [5] (fun i wr => ∃ (k : Nat), k ≤ l.length ∧ i = .int .i64 (k : Int) ∧ Below w.heap.size w wr) (fun i _ => l.length - (intOf i).toNat)
  case atStart => exact ⟨0, Nat.zero_le _, rfl, Below.refl _ _⟩
  case round =>
    obtain ⟨k, hk, rfl, hbel⟩ := hrel
    have HBE := Lib.hid hbel
    have hB := hbel.size
    by_cases hlt : k < l.length
    · obtain ⟨g, rfl, hg, c0, c1, c2⟩ := HA.out k hlt
      obtain ⟨g', rfl, hg', c0', c1', c2'⟩ := HB.out k hlt
      have k0 : (0 : Int) ≤ (k : Int) := by omega
      have k1 : (k : Int) < (l.length : Int) := by omega
      obtain ⟨t, ht⟩ : ∃ t, l[k] = t := ⟨_, rfl⟩
      rw [ht] at c0 c1 c2 c0' c1' c2'
      have d0 : wr.cell? ⟨g, k * 3, none⟩ = some (.string t.name) := (hbel.cell (p := ⟨g, _, none⟩) hg).trans c0
      have d1 : wr.cell? ⟨g, k * 3 + 1, none⟩ = some (.int .i64 t.start) := (hbel.cell (p := ⟨g, _, none⟩) hg).trans c1
      have d2 : wr.cell? ⟨g, k * 3 + 2, none⟩ = some (.int .i64 t.size) := (hbel.cell (p := ⟨g, _, none⟩) hg).trans c2
      have d0' : wr.cell? ⟨g', k * 3, none⟩ = some (.string t.name) := (hbel.cell (p := ⟨g', _, none⟩) hg').trans c0'
      have d1' : wr.cell? ⟨g', k * 3 + 1, none⟩ = some (.int .i64 t.start) := (hbel.cell (p := ⟨g', _, none⟩) hg').trans c1'
      have d2' : wr.cell? ⟨g', k * 3 + 2, none⟩ = some (.int .i64 t.size) := (hbel.cell (p := ⟨g', _, none⟩) hg').trans c2'
      have gw : g < wr.heap.size := by omega
      have gw' : g' < wr.heap.size := by omega
      clear HA HB c0 c1 c2 c0' c1' c2' ht hbel
      go_wp2_with fail
      go_region_held3 (fun w' => w'.cell? ⟨g, k * 3, none⟩ = some (.string t.name) ∧ w'.cell? ⟨g, k * 3 + 1, none⟩ = some (.int .i64 t.start) ∧ w'.cell? ⟨g, k * 3 + 2, none⟩ = some (.int .i64 t.size) ∧
          w'.cell? ⟨g', k * 3, none⟩ = some (.string t.name) ∧ w'.cell? ⟨g', k * 3 + 1, none⟩ = some (.int .i64 t.start) ∧ w'.cell? ⟨g', k * 3 + 2, none⟩ = some (.int .i64 t.size))
        (first
          | go_keep
          | (go_split_ands
             refine ⟨(b1.cell (p := ⟨g, _, none⟩) gw).trans ?_, (b1.cell (p := ⟨g, _, none⟩) gw).trans ?_, (b1.cell (p := ⟨g, _, none⟩) gw).trans ?_, (b1.cell (p := ⟨g', _, none⟩) gw').trans ?_, (b1.cell (p := ⟨g', _, none⟩) gw').trans ?_, (b1.cell (p := ⟨g', _, none⟩) gw').trans ?_⟩ <;> assumption))
        (first
        | (go_at_call 61; refine (l_eqSymbol _ _ _ _).mono ?_; rintro e w1 ⟨rfl, b1⟩))
      all_goals
        have HB1 := Lib.hid (HBE.out.drew.trans (b1.mono hB))
        clear b1
        go_wp2
        go_roundw
        case rel => exact ⟨k + 1, by omega, by go_num, HB1.out⟩
        case measure => simp [intOf]; omega
    · go_wp2
      go_ret
      exact ⟨rfl, HBE.out⟩
end Go.Proofs.Ytljmkkodhnkemaa
