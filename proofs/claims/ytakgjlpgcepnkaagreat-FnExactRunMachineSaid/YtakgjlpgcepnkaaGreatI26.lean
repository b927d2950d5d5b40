/- The laws' toSymbolS: the program's row made of the argument; The laws' eqSymbolS: two rows that hold the same symbols are equal; The laws' own functions on images: the size, the program's image made of the argument, equality; The laws' own functions on rows of images: the size, the program's row made of it, equality; The laws' own functions on spaces: the size, the program's space made of the argument, equality; The laws' marks: what markText returns; The laws' own functions on spaces: the size, with the sum of all symbols; Marks of spaces: only the shape of what is marked matters. -/
import Derived.Test.YtakgjlpgcepnkaaGreatI25
import Derived.Test.YtakgjlpgcepnkaaGreatI24
import Derived.Test.YtakgjlpgcepnkaaGreatI02
import Derived.Test.YtakgjlpgcepnkaaGreatRows
import Derived.Test.YtakgjlpgcepnkaaGreatI03
import Derived.Laws.MakeOwn
import Derived.Deep.QuietTactic
import Derived.BigQuiet
import Derived.Outline
import Derived.Lib.Hide
import Derived.Deep.RegionHeld3
import Derived.Maps.AppendAt
import Derived.WalkSmall
/-! The laws' toSymbolS: the program's row made of the argument -/
namespace Go.Proofs.YtakgjlpgcepnkaaGreat
open Go.RowKit Go.Lib

set_option maxHeartbeats 1000000 in
theorem l_toSymbolS (a : Option Addr) (cap : Nat) (l : List SyL) (w : World) (hl : l.length ≤ 1048576) (ha : ArgSy w a l) :
    Calls Tryz.prog 68 #[.slice a l.length cap] w (Syms 70 w.heap.size l w) := by
  have HA := Lib.hid ha
  clear ha
  obtain ⟨i0, hi, hz0, hz1, hz2⟩ := info_parts infoSy
  have hmk := fun W => run_make_rowN (P := Tryz.prog) 63 70 i0 _ 3 32 Tryz.underlying63 hi hz0 hz1 hz2 .i64 .i64 l.length l.length (Nat.le_refl _) (by omega) (by omega) W
  obtain ⟨cs, hcs⟩ : ∃ cs, madeCells (Value.agg #[.string ⟨#[]⟩, .int .i64 0, .int .i64 0]).cells (l.length * 3) = cs := ⟨_, rfl⟩
  have hcsz : cs.size = l.length * 3 := by rw [← hcs, size_madeCells]
  rw [hcs] at hmk
  clear hcs hi hz0 hz1 hz2
  have HZ := Lib.hid hcsz
  clear hcsz
  go_enter Tryz.func68, Tryz.ntmps68
  go_wp2_with fail
  clear hmk
  go_loopw [4] (fun i wr => ∃ (k : Nat) (R : List Value), k ≤ l.length ∧ i = .int .i64 (k : Int) ∧ R.length = (l.length - k) * 3 ∧ wr.ownsRow w.heap.size 70 3 (.slice (some ⟨w.heap.size, 0, none⟩) l.length l.length) l.length (headSy k l R) ∧ Below w.heap.size w wr) (fun i _ => l.length - (intOf i).toNat)
  case atStart => exact ⟨0, cs.toList, Nat.zero_le _, rfl, by simpa using HZ.out, World.ownsRow_lit _ _ _ (Nat.le_refl _) (by unfold maxLen; omega) HZ.out, (Below.refl _ _).alloc (Nat.le_refl _) _⟩
  case round =>
    obtain ⟨k, R, hk, rfl, hR, hown, hbel⟩ := hrel
    have HO := Lib.hid hown
    have HB := Lib.hid hbel
    have hB := hbel.size
    have hgl : w.heap.size < wr.heap.size := (hown.lt w.heap.size rfl).2
    clear hown
    by_cases hlt : k < l.length
    · obtain ⟨x, rfl, hx, c0, c1, c2, hsz, _, _⟩ := HA.out k hlt
      obtain ⟨y0, y1, y2, R', hRe, hR'⟩ := three R (l.length - (k + 1)) (by rw [hR]; congr 1; omega)
      subst hRe
      have HR' := Lib.hid hR'
      have HS := Lib.hid (headSy_set k l hlt y0 y1 y2 R')
      obtain ⟨t, ht⟩ : ∃ t, l[k] = t := ⟨_, rfl⟩
      rw [ht] at c0 c1 c2 HS
      have d0 : wr.cell? (x.add (k * 3)) = some (.string t.name) := (hbel.cell (by rw [addr_block]; exact hx)).trans c0
      have d1 : wr.cell? ⟨(x.add (k * 3)).block, (x.add (k * 3)).off + 1, none⟩ = some (.int .i64 t.start) := (hbel.cell (p := ⟨_, _, none⟩) (by rw [addr_block]; exact hx)).trans c1
      have d2 : wr.cell? ⟨(x.add (k * 3)).block, (x.add (k * 3)).off + 2, none⟩ = some (.int .i64 t.size) := (hbel.cell (p := ⟨_, _, none⟩) (by rw [addr_block]; exact hx)).trans c2
      have k0 : (0 : Int) ≤ (k : Int) := by omega
      have k1 : (k : Int) < (l.length : Int) := by omega
      clear c0 c1 c2 hbel ht hR hR' hsz
      go_wp2_with fail
      refine (l_toSymbol t.name t.start t.size _).mono ?_
      rintro e w1 ⟨rfl, b1⟩
      have HO1 := Lib.hid (owns3_below HO.out b1)
      have HB1 := Lib.hid (HB.out.trans (b1.mono hB))
      have hs1 := b1.size
      clear b1 d0 d1 d2
      have hlen : (headSy k l (y0 :: y1 :: y2 :: R')).length = l.length * 3 := HO1.out.1
      have cellk : ∀ i, i < 3 → ∃ y, w1.cell? ⟨w.heap.size, k * 3 + i, none⟩ = some y := fun i hi => by
        have := HO1.out.cellAt (k * 3 + i) (by omega)
        rw [this]
        exact ⟨_, List.getElem?_eq_getElem (by omega)⟩
      obtain ⟨z0, e0⟩ := cellk 0 (by omega)
      rw [Nat.add_zero] at e0
      obtain ⟨z1, e1⟩ := cellk 1 (by omega)
      obtain ⟨z2, e2⟩ := cellk 2 (by omega)
      have fr := HO1.out.frozenAt
      have S1 := HO1.out.stored (k * 3) (.string t.name)
      have S2 := S1.1.stored (k * 3 + 1) (.int .i64 t.start)
      have S3 := S2.1.stored (k * 3 + 2) (.int .i64 t.size)
      have HO2 := Lib.hid (HS.out ▸ S3.1)
      have HB2 := Lib.hid (((HB1.out.grown S1.2 (by omega) (fun j hj => by injection hj with e; omega)).grown S2.2 (by simp [World.setCell]; omega) (fun j hj => by injection hj with e; omega)).grown S3.2 (by simp [World.setCell]; omega) (fun j hj => by injection hj with e; omega))
      clear cellk hlen S1 S2 S3
      go_wp2
      go_roundw
      case rel => exact ⟨k + 1, R', by omega, by go_num, HR'.out, HO2.out, HB2.out⟩
      case measure => simp [intOf]; omega
    · have hkk : k = l.length := by omega
      subst hkk
      have hR0 : R = [] := List.length_eq_zero_iff.1 (by rw [hR]; simp)
      subst hR0
      go_wp2
      go_ret
      exact ⟨_, rfl, by have := HO.out; unfold headSy at this; rw [List.take_of_length_le (Nat.le_refl _), List.append_nil] at this; exact this, HB.out⟩
end Go.Proofs.YtakgjlpgcepnkaaGreat

/-! The laws' eqSymbolS: two rows that hold the same symbols are equal -/
namespace Go.Proofs.YtakgjlpgcepnkaaGreat
open Go.RowKit Go.Lib

theorem l_eqSymbol (s : ByteArray) (k n : Int) (w : World) :
    Calls Tryz.prog 110 #[.agg #[.string s, .int .i64 k, .int .i64 n], .agg #[.string s, .int .i64 k, .int .i64 n]] w fun e w' => e = .returned (.bool true) ∧ Below w.heap.size w w' := by
  go_enter Tryz.func110, Tryz.ntmps110
  go_wp2
  go_ret
  exact ⟨rfl, ((Below.refl _ _).alloc (Nat.le_refl _) _).alloc (by simp) _⟩

set_option maxHeartbeats 1000000 in
theorem l_eqSymbolS (a b : Option Addr) (c d : Nat) (l : List SyL) (w : World) (ha : ReadSy w a l) (hb : ReadSy w b l) (hl : l.length ≤ 1048576) :
    Calls Tryz.prog 90 #[.slice a l.length c, .slice b l.length d] w fun e w' => e = .returned (.bool true) ∧ Below w.heap.size w w' := by
  have HA := Lib.hid ha
  have HB := Lib.hid hb
  clear ha hb
  go_enter Tryz.func90, Tryz.ntmps90
  go_wp2_with fail
  go_loopw [5] (fun i wr => ∃ (k : Nat), k ≤ l.length ∧ i = .int .i64 (k : Int) ∧ Below w.heap.size w wr) (fun i _ => l.length - (intOf i).toNat)
  case atStart => exact ⟨0, Nat.zero_le _, rfl, Below.refl _ _⟩
  case round =>
    obtain ⟨k, hk, rfl, hbel⟩ := hrel
    have HBE := Lib.hid hbel
    have hB := hbel.size
    by_cases hlt : k < l.length
    · obtain ⟨g, rfl, hg, c0, c1, c2⟩ := HA.out k hlt
      obtain ⟨g', rfl, hg', c0', c1', c2'⟩ := HB.out k hlt
      have k0 : (0 : Int) ≤ (k : Int) := by omega
      have k1 : (k : Int) < (l.length : Int) := by omega
      obtain ⟨t, ht⟩ : ∃ t, l[k] = t := ⟨_, rfl⟩
      rw [ht] at c0 c1 c2 c0' c1' c2'
      have d0 : wr.cell? ⟨g, k * 3, none⟩ = some (.string t.name) := (hbel.cell (p := ⟨g, _, none⟩) hg).trans c0
      have d1 : wr.cell? ⟨g, k * 3 + 1, none⟩ = some (.int .i64 t.start) := (hbel.cell (p := ⟨g, _, none⟩) hg).trans c1
      have d2 : wr.cell? ⟨g, k * 3 + 2, none⟩ = some (.int .i64 t.size) := (hbel.cell (p := ⟨g, _, none⟩) hg).trans c2
      have d0' : wr.cell? ⟨g', k * 3, none⟩ = some (.string t.name) := (hbel.cell (p := ⟨g', _, none⟩) hg').trans c0'
      have d1' : wr.cell? ⟨g', k * 3 + 1, none⟩ = some (.int .i64 t.start) := (hbel.cell (p := ⟨g', _, none⟩) hg').trans c1'
      have d2' : wr.cell? ⟨g', k * 3 + 2, none⟩ = some (.int .i64 t.size) := (hbel.cell (p := ⟨g', _, none⟩) hg').trans c2'
      have gw : g < wr.heap.size := by omega
      have gw' : g' < wr.heap.size := by omega
      clear HA HB c0 c1 c2 c0' c1' c2' ht hbel
      go_wp2_with fail
      go_region_held3 (fun w' => w'.cell? ⟨g, k * 3, none⟩ = some (.string t.name) ∧ w'.cell? ⟨g, k * 3 + 1, none⟩ = some (.int .i64 t.start) ∧ w'.cell? ⟨g, k * 3 + 2, none⟩ = some (.int .i64 t.size) ∧
          w'.cell? ⟨g', k * 3, none⟩ = some (.string t.name) ∧ w'.cell? ⟨g', k * 3 + 1, none⟩ = some (.int .i64 t.start) ∧ w'.cell? ⟨g', k * 3 + 2, none⟩ = some (.int .i64 t.size))
        (first
          | go_keep
          | (go_split_ands
             refine ⟨(b1.cell (p := ⟨g, _, none⟩) gw).trans ?_, (b1.cell (p := ⟨g, _, none⟩) gw).trans ?_, (b1.cell (p := ⟨g, _, none⟩) gw).trans ?_, (b1.cell (p := ⟨g', _, none⟩) gw').trans ?_, (b1.cell (p := ⟨g', _, none⟩) gw').trans ?_, (b1.cell (p := ⟨g', _, none⟩) gw').trans ?_⟩ <;> assumption))
        (first
        | (go_at_call 110; refine (l_eqSymbol _ _ _ _).mono ?_; rintro e w1 ⟨rfl, b1⟩))
      all_goals
        have HB1 := Lib.hid (HBE.out.drew.trans (b1.mono hB))
        clear b1
        go_wp2
        go_roundw
        case rel => exact ⟨k + 1, by omega, by go_num, HB1.out⟩
        case measure => simp [intOf]; omega
    · go_wp2
      go_ret
      exact ⟨rfl, HBE.out⟩
end Go.Proofs.YtakgjlpgcepnkaaGreat

/-! The laws' own functions on images: the size, the program's image made of the argument, equality -/
namespace Go.Proofs.YtakgjlpgcepnkaaGreat
open Go.RowKit Go.Lib

/-- An image that a call has made. -/
def ImgRes (T B : Nat) (c : ByteArray) (l : List SyL) (w : World) (e : Ending) (w' : World) : Prop :=
  ∃ v, e = .returned (.agg #[.string c, v]) ∧ w'.ownsRow B T 3 v l.length (sysV l) ∧ Below w.heap.size w w'
set_option maxRecDepth 100000 in
set_option maxHeartbeats 1000000 in
theorem l_toImage (c : ByteArray) (a : Option Addr) (cap : Nat) (l : List SyL) (w : World) (hl : l.length ≤ 1048576) (ha : ArgSy w a l) :
    Calls Tryz.prog 43 #[.agg #[.string c, .slice a l.length cap]] w (ImgRes 70 w.heap.size c l w) := by
  have HA := Lib.hid ha
  clear ha
  have T3 := Lib.hid (three_new w (.cells #[.string c, .slice a l.length cap] 61) (.cells #[.string ⟨#[]⟩, .slice none 0 0] 65) (.cells #[.string c, .slice none 0 0] 65))
  go_enter Tryz.func43, Tryz.ntmps43
  go_wp2_with fail
  refine (l_toSymbolS a cap l _ hl (HA.out.below T3.out.2.2.2.2)).mono ?_
  rintro e w1 ⟨va, rfl, O1, b1⟩
  obtain ⟨av, cv, rfl⟩ := owns3_shape O1
  obtain ⟨t0, t1, t2, tz, tb⟩ := T3.out
  rw [tz] at O1 b1
  have p1 := (b1.block _ (by omega)).trans t1
  have p2 := (b1.block _ (by omega)).trans t2
  have z1 := b1.size
  rw [tz] at z1
  have HB1 : Hid (Below w.heap.size w w1) := Lib.hid (tb.trans (b1.mono (by omega)))
  have HO1 := Lib.hid O1
  have c20 : w1.cell? ⟨w.heap.size + 1 + 1, 0, none⟩ = some (.string c) := (blk p2).1 0 _ rfl
  have c21 : w1.cell? ⟨w.heap.size + 1 + 1, 1, none⟩ = some (.slice none 0 0) := (blk p2).1 1 _ rfl
  have g2 := (blk p2).2.1 1
  have d0 : w1.cell? ⟨w.heap.size + 1, 0, none⟩ = some (.string ⟨#[]⟩) := (blk p1).1 0 _ rfl
  have d1 : w1.cell? ⟨w.heap.size + 1, 1, none⟩ = some (.slice none 0 0) := (blk p1).1 1 _ rfl
  have g10 := (blk p1).2.1 0
  have g11 := (blk p1).2.1 1
  have m2 := (blk p2).2.2
  have m1 := (blk p1).2.2
  clear t0 t1 t2 tz tb p1 p2 O1 b1
  go_wp2
  refine bodyPost_ret (v := .agg #[.string c, .slice av l.length cv]) (by simp [results, Tryz.results43, go_sem, d0, d1, m1, m2, c20, c21]) rfl ⟨.slice av l.length cv, rfl, ?_, ?_⟩
  · exact owns_lo (owns_set (owns_set (owns_set HO1.out (by omega)) (by omega)) (by omega)) (by omega)
  · exact ((HB1.out.setCell (by simp; omega) _).setCell (by simp) _).setCell (by simp) _

set_option maxRecDepth 100000 in
set_option maxHeartbeats 1000000 in
theorem l_eqImage (c : ByteArray) (l : List SyL) (a1 a2 : Option Addr) (c1 c2 : Nat) (w : World) (h1 : ReadSy w a1 l) (h2 : ReadSy w a2 l) (hl : l.length ≤ 1048576) :
    Calls Tryz.prog 54 #[.agg #[.string c, .slice a1 l.length c1], .agg #[.string c, .slice a2 l.length c2]] w fun e w' => e = .returned (.bool true) ∧ Below w.heap.size w w' := by
  have H1 := Lib.hid h1
  have H2 := Lib.hid h2
  clear h1 h2
  have T := Lib.hid (two_new w (.cells #[.string c, .slice a1 l.length c1] 65) (.cells #[.string c, .slice a2 l.length c2] 65))
  go_enter Tryz.func54, Tryz.ntmps54
  go_wp2_with fail
  refine (l_eqSymbolS a1 a2 c1 c2 l _ (H1.out.below T.out.2.2.2) (H2.out.below T.out.2.2.2) (by omega)).mono ?_
  rintro e w1 ⟨rfl, q1⟩
  have HB1 : Hid (Below w.heap.size w w1) := Lib.hid (T.out.2.2.2.trans (q1.mono (by have := T.out.2.2.1; omega)))
  clear q1
  go_wp2
  go_ret
  exact ⟨rfl, HB1.out⟩
end Go.Proofs.YtakgjlpgcepnkaaGreat

/-! The laws' own functions on rows of images: the size, the program's row made of it, equality -/
namespace Go.Proofs.YtakgjlpgcepnkaaGreat
open Go.RowKit Go.Lib

theorem smallI_next (l : List ImA) (k : Nat) (hk : k < l.length) (h : ∀ x ∈ l.take k, SmallI x) (hx : SmallI l[k]) : ∀ x ∈ l.take (k + 1), SmallI x := by
  intro x hx'
  rw [List.take_succ_eq_append_getElem hk] at hx'
  rcases List.mem_append.1 hx' with h' | h'
  · exact h x h'
  · rw [List.mem_singleton] at h'; rw [h']; exact hx

/-- A row of images was returned, in a row of its own from block B on. -/
def ImsRes (TL TS B : Nat) (ps : List (ByteArray × List SyL)) (w : World) (e : Ending) (w' : World) : Prop :=
  ∃ v X, e = .returned v ∧ w'.ownsRow B TL 2 v X.length (imsV X) ∧ MadeG TS B w' X ∧ psI X = ps ∧ Below w.heap.size w w'
theorem infoIm : (Tryz.prog.info? 65).map (fun i => (i.zero, i.size, i.bytes)) = some (some (.agg #[.string ⟨#[]⟩, .slice none 0 0]), 2, 40) := by kernel_rfl
theorem row_blockI {B T n s g o c : Nat} {w : World} {xs : List Value} (h : w.ownsRow B T s (.slice (some ⟨g, o, none⟩) n c) n xs) : ∃ cur, w.heap[g]? = some (.cells cur T (0, 0)) := by
  rcases h.2 with ⟨e, _⟩ | ⟨g', cap, cur, e, _, hg, _⟩
  · injection e with e; cases e
  · injection e with e
    injection e with e
    injection e with e
    subst e
    exact ⟨cur, hg⟩
set_option maxRecDepth 100000 in
set_option maxHeartbeats 2000000 in
theorem l_toImageS (a : Option Addr) (cap : Nat) (l : List ImA) (w : World) (hl : l.length ≤ 1048576) (ha : ArgIms w a l) (hs : ∀ x ∈ l, SmallI x) :
    Calls Tryz.prog 24 #[.slice a l.length cap] w (ImsRes 65 70 w.heap.size (psI l) w) := by
  have HA := Lib.hid ha
  have HSM := Lib.hid hs
  clear ha hs
  obtain ⟨i0, hi, hz0, hz1, hz2⟩ := info_parts infoIm
  have hmk := fun W => run_make_rowN (P := Tryz.prog) 32 65 i0 _ 2 40 Tryz.underlying32 hi hz0 hz1 hz2 .i64 .i64 l.length l.length (Nat.le_refl _) (by omega) (by omega) W
  obtain ⟨cs, hcs⟩ : ∃ cs, madeCells (Value.agg #[.string ⟨#[]⟩, .slice none 0 0]).cells (l.length * 2) = cs := ⟨_, rfl⟩
  have hcsz : cs.size = l.length * 2 := by rw [← hcs, size_madeCells]
  rw [hcs] at hmk
  clear hcs hi hz0 hz1 hz2
  have HZ := Lib.hid hcsz
  clear hcsz
  go_enter Tryz.func24, Tryz.ntmps24
  go_wp2_with fail
  clear hmk
  go_loopw [4] (fun i wr => ∃ (k : Nat) (X : List ImA) (R : List Value), k ≤ l.length ∧ i = .int .i64 (k : Int) ∧ R.length = (l.length - k) * 2 ∧ X.length = k ∧ Hid (psI X = psI (l.take k)) ∧ MadeG 70 w.heap.size wr X ∧ wr.ownsRow w.heap.size 65 2 (.slice (some ⟨w.heap.size, 0, none⟩) l.length l.length) l.length (imsV X ++ R) ∧ Below w.heap.size w wr) (fun i _ => l.length - (RowKit.intOf i).toNat)
  case atStart => exact ⟨0, [], cs.toList, Nat.zero_le _, rfl, by simpa using HZ.out, rfl, Lib.hid rfl, MadeG.nil _ _ _, World.ownsRow_lit _ _ _ (Nat.le_refl _) (by unfold maxLen; omega) HZ.out, (Below.refl _ _).alloc (Nat.le_refl _) _⟩
  case round =>
    obtain ⟨k, X, R, hk, rfl, hR, hX, HP, hall, hown, hbel⟩ := hrel
    have HO := Lib.hid hown
    have HB := Lib.hid hbel
    have HAL := Lib.hid hall
    have hB := hbel.size
    have hgl : w.heap.size < wr.heap.size := (hown.lt w.heap.size rfl).2
    clear hown hall
    by_cases hlt : k < l.length
    · obtain ⟨x, rfl, hx, c0, c1, hln⟩ := (HA.out.below hbel) k hlt
      have hsm := HSM.out _ (List.getElem_mem hlt)
      have PN := Lib.hid (psI_next l k hlt)
      obtain ⟨y, hy⟩ : ∃ y, l[k] = y := ⟨_, rfl⟩
      rw [hy] at c0 c1 hln hsm PN
      obtain ⟨y0, y1, R', hRe, hR'⟩ := twoV R (l.length - (k + 1)) (by rw [hR]; congr 1; omega)
      subst hRe
      have HR' := Lib.hid hR'
      have HC := Lib.hid (l_toImage y.s y.a y.c y.l wr hsm.2.1 hln.1)
      obtain ⟨ys, yl, ya, yc⟩ := y
      dsimp only at c0 c1 HC PN
      have HS := Lib.hid (fun va vc => imsV_set X k hX ⟨ys, yl, va, vc⟩ y0 y1 R')
      have HXL := Lib.hid hX
      have k0 : (0 : Int) ≤ (k : Int) := by omega
      have k1 : (k : Int) < (l.length : Int) := by omega
      clear hy hsm hln hR hR' hbel hX
      go_wp2_with fail
      refine HC.out.mono ?_
      rintro e w1 ⟨va, rfl, O1, b1⟩
      obtain ⟨av, cv, rfl⟩ := owns3_shape O1
      have HO1 := Lib.hid (owns3_below HO.out b1)
      have HB1 := Lib.hid (HB.out.trans (b1.mono hB))
      have hs1 := b1.size
      have HAL1 : Hid (MadeG 70 w.heap.size w1 (X ++ [⟨ys, yl, av, cv⟩])) := Lib.hid ((HAL.out.below b1).snoc (owns_lo O1 hB))
      have HSS := Lib.hid (HS.out av cv)
      clear b1 c0 c1 O1
      have hlen : (imsV X ++ y0 :: y1 :: R').length = l.length * 2 := HO1.out.1
      have cellk : ∀ i, i < 2 → ∃ y, w1.cell? ⟨w.heap.size, k * 2 + i, none⟩ = some y := fun i hi => by
        have := HO1.out.cellAt (k * 2 + i) (by omega)
        rw [this]
        exact ⟨_, List.getElem?_eq_getElem (by omega)⟩
      obtain ⟨z0, e0⟩ := cellk 0 (by omega)
      rw [Nat.add_zero] at e0
      obtain ⟨z1, e1⟩ := cellk 1 (by omega)
      have fr := HO1.out.frozenAt
      have S1 := HO1.out.stored (k * 2) (.string ys)
      have S2 := S1.1.stored (k * 2 + 1) (.slice av yl.length cv)
      have HO2 := Lib.hid (HSS.out ▸ S2.1)
      have HG := Lib.hid (S1.2.trans S2.2)
      have HB2 := Lib.hid (HB1.out.grown HG.out (by omega) (fun j hj => by injection hj with e; omega))
      clear cellk hlen S1 S2
      go_wp2
      go_roundw
      case rel =>
        refine ⟨k + 1, X ++ [⟨ys, yl, av, cv⟩], R', by omega, by go_num, HR'.out, by rw [List.length_append, HXL.out]; rfl, Lib.hid ?_, ?_, HO2.out, HB2.out⟩
        · rw [PN.out, ← HP.out]; simp [psI]
        · exact MadeG.grown (TL := 65) HAL1.out HG.out (row_blockI HO1.out) (by decide)
      case measure => simp [RowKit.intOf]; omega
    · have hkk : k = l.length := by omega
      subst hkk
      have hR0 : R = [] := List.length_eq_zero_iff.1 (by rw [hR]; simp)
      subst hR0
      have HPF : Hid (psI X = psI l) := Lib.hid (by have h := HP.out; rwa [List.take_of_length_le (Nat.le_refl _)] at h)
      have HOF : Hid (wr.ownsRow w.heap.size 65 2 (.slice (some ⟨w.heap.size, 0, none⟩) l.length l.length) X.length (imsV X)) := Lib.hid (by have h := HO.out; rw [List.append_nil] at h; rw [hX]; exact h)
      clear hX hR HO hlt
      go_wp2
      go_ret
      exact ⟨_, X, rfl, HOF.out, HAL.out, HPF.out, HB.out⟩

theorem psI_at {X Y : List ImA} (h : psI X = psI Y) (j : Nat) (hx : j < X.length) : ∃ hy : j < Y.length, X[j].s = Y[j].s ∧ X[j].l = Y[j].l := by
  have hl : X.length = Y.length := by have := congrArg List.length h; rwa [psI_len, psI_len] at this
  have hy : j < Y.length := by omega
  refine ⟨hy, ?_⟩
  have h1 := psI_get X j hx
  rw [h, psI_get Y j hy] at h1
  injection h1 with h1
  injection h1 with h1 h2
  exact ⟨h1.symm, h2.symm⟩
set_option maxRecDepth 100000 in
set_option maxHeartbeats 2000000 in
theorem l_eqImageS (a b : Option Addr) (c d : Nat) (X Y : List ImA) (w : World) (ha : ReadIms w a X) (hb : ReadIms w b Y) (hxy : psI X = psI Y) (hl : X.length ≤ 1048576) (hz : ∀ x ∈ X, SmallI x) :
    Calls Tryz.prog 31 #[.slice a X.length c, .slice b Y.length d] w fun e w' => e = .returned (.bool true) ∧ Below w.heap.size w w' := by
  have hyl : Y.length = X.length := by have := congrArg List.length hxy; rw [psI_len, psI_len] at this; exact this.symm
  have HA := Lib.hid ha
  have HB := Lib.hid hb
  have HXY := Lib.hid hxy
  have HZ := Lib.hid hz
  rw [hyl]
  clear ha hb hxy hyl hz
  go_enter Tryz.func31, Tryz.ntmps31
  go_wp2_with fail
  go_loopw [5] (fun i wr => ∃ (k : Nat), k ≤ X.length ∧ i = .int .i64 (k : Int) ∧ Below w.heap.size w wr) (fun i _ => X.length - (RowKit.intOf i).toNat)
  case atStart => exact ⟨0, Nat.zero_le _, rfl, Below.refl _ _⟩
  case round =>
    obtain ⟨k, hk, rfl, hbel⟩ := hrel
    have HBE := Lib.hid hbel
    have hB := hbel.size
    by_cases hlt : k < X.length
    · obtain ⟨hlt2, q0, q1⟩ := psI_at HXY.out k hlt
      obtain ⟨g, rfl, hg, c0, c1, hm⟩ := (HA.out.below hbel) k hlt
      obtain ⟨g', rfl, hg', d0, d1, hm'⟩ := (HB.out.below hbel) k hlt2
      have hzz := HZ.out _ (List.getElem_mem hlt)
      obtain ⟨x, hx⟩ : ∃ x, X[k] = x := ⟨_, rfl⟩
      obtain ⟨y, hy⟩ : ∃ y, Y[k] = y := ⟨_, rfl⟩
      rw [hx] at c0 c1 hm q0 q1 hzz
      rw [hy] at d0 d1 hm' q0 q1
      rw [← q0] at d0
      rw [← q1] at d1 hm'
      have HE := Lib.hid (fun W (hb : Below wr.heap.size wr W) => l_eqImage x.s x.l x.a y.a x.c y.c W (hm.below hb) (hm'.below hb) hzz.2.1)
      obtain ⟨xs, xl, xa, xc⟩ := x
      dsimp only at c0 c1 d0 d1 HE
      have k0 : (0 : Int) ≤ (k : Int) := by omega
      have k1 : (k : Int) < (X.length : Int) := by omega
      have HC := Lib.hid (And.intro c0 c1)
      have HD := Lib.hid (And.intro d0 d1)
      obtain ⟨yys, yyl, yya, yyc⟩ := y
      dsimp only at d1 HE HD
      clear hx hy hm hm' hzz q0 q1 hbel hlt2
      go_wp2_with fail
      go_region_held3 (fun w' => (w'.cell? ⟨g, k * 2, none⟩ = some (.string xs) ∧ w'.cell? ⟨g, k * 2 + 1, none⟩ = some (.slice xa xl.length xc)) ∧
          (w'.cell? ⟨g', k * 2, none⟩ = some (.string xs) ∧ w'.cell? ⟨g', k * 2 + 1, none⟩ = some (.slice yya xl.length yyc)))
        (first | go_keep | (exact ⟨⟨(b1.cell (p := ⟨g, _, none⟩) hg).trans HC.out.1, (b1.cell (p := ⟨g, _, none⟩) hg).trans HC.out.2⟩, ⟨(b1.cell (p := ⟨g', _, none⟩) hg').trans HD.out.1, (b1.cell (p := ⟨g', _, none⟩) hg').trans HD.out.2⟩⟩))
        (first
          | (go_at_call 54; refine (HE.out _ ?_).mono ?_; exact (Below.refl wr.heap.size wr).drew; rintro e w1 ⟨rfl, b1⟩))
      all_goals
        have HB1 : Hid (Below w.heap.size w w1) := Lib.hid (HBE.out.trans ((undrew b1).mono hB))
        clear b1 c0 c1 d0 d1 HC HD
        go_wp2
        go_roundw
        case rel => exact ⟨k + 1, by omega, by go_num, HB1.out⟩
        case measure => simp [RowKit.intOf]; omega
    · go_wp2
      go_ret
      exact ⟨rfl, HBE.out⟩
end Go.Proofs.YtakgjlpgcepnkaaGreat

/-! The laws' own functions on spaces: the size, the program's space made of the argument, equality -/
namespace Go.Proofs.YtakgjlpgcepnkaaGreat
open Go.RowKit Go.Lib

theorem MadeG.set {TS B c j : Nat} {w : World} {X : List ImA} {v : Value} (h : MadeG TS B w X) (hc : c < B) : MadeG TS B (w.setCell ⟨c, j, none⟩ v) X := fun x hx => owns_set (h x hx) hc
theorem MadeG.lo {TS B B' : Nat} {w : World} {X : List ImA} (h : MadeG TS B w X) (hb : B' ≤ B) : MadeG TS B' w X := fun x hx => owns_lo (h x hx) hb
theorem cells3s {w : World} {b : Nat} {x0 x1 x2 : Value} {t : TypeId} (h : w.heap[b]? = some (.cells #[x0, x1, x2] t (0, 0))) : w.cell? ⟨b, 0, none⟩ = some x0 ∧ w.cell? ⟨b, 1, none⟩ = some x1 ∧ w.cell? ⟨b, 2, none⟩ = some x2 := ⟨(blk h).1 0 _ rfl, (blk h).1 1 _ rfl, (blk h).1 2 _ rfl⟩
/-- A space that came in. -/
def ArgSp (w : World) (a0 : Option Addr) (I : List ImA) (a1 : Option Addr) (B : List Int) (a2 : Option Addr) (E : List Int) : Prop := ArgIms w a0 I ∧ ArgIn w a1 B ∧ ArgIn w a2 E
theorem ArgSp.below {w w' : World} {a0 a1 a2 : Option Addr} {I : List ImA} {B E : List Int} (h : ArgSp w a0 I a1 B a2 E) (hb : Below w.heap.size w w') : ArgSp w' a0 I a1 B a2 E := ⟨h.1.below hb, h.2.1.below hb, h.2.2.below hb⟩
/-- What a call may read of a space. -/
def ReadSp (w : World) (a0 : Option Addr) (I : List ImA) (a1 : Option Addr) (B : List Int) (a2 : Option Addr) (E : List Int) : Prop := ReadIms w a0 I ∧ ReadI w a1 B ∧ ReadI w a2 E
theorem ReadSp.below {w w' : World} {a0 a1 a2 : Option Addr} {I : List ImA} {B E : List Int} (h : ReadSp w a0 I a1 B a2 E) (hb : Below w.heap.size w w') : ReadSp w' a0 I a1 B a2 E := ⟨h.1.below hb, h.2.1.below hb, h.2.2.below hb⟩

/-- A space that a call has made. -/
def SpcRes (TI TS TN B0 : Nat) (ps : List (ByteArray × List SyL)) (B E : List Int) (w : World) (e : Ending) (w' : World) : Prop :=
  ∃ v0 X v1 v2, e = .returned (.agg #[v0, v1, v2]) ∧ w'.ownsRow B0 TI 2 v0 X.length (imsV X) ∧ MadeG TS B0 w' X ∧ psI X = ps ∧ w'.ownsRow B0 TN 1 v1 B.length (intV B) ∧ w'.ownsRow B0 TN 1 v2 E.length (intV E) ∧ Below w.heap.size w w'
set_option maxRecDepth 100000 in
set_option maxHeartbeats 2000000 in
theorem l_toSpace (a0 a1 a2 : Option Addr) (c0 c1 c2 : Nat) (I : List ImA) (B E : List Int) (w : World) (hI : I.length ≤ 1048576) (hB : B.length ≤ 1048576) (hE : E.length ≤ 1048576) (ha : ArgSp w a0 I a1 B a2 E) (hs : ∀ x ∈ I, SmallI x) :
    Calls Tryz.prog 8 #[.agg #[.slice a0 I.length c0, .slice a1 B.length c1, .slice a2 E.length c2]] w (SpcRes 65 70 3 w.heap.size (psI I) B E w) := by
  have HA := Lib.hid ha
  have HS := Lib.hid hs
  clear ha hs
  have T3 := Lib.hid (three_new w (.cells #[.slice a0 I.length c0, .slice a1 B.length c1, .slice a2 E.length c2] 25) (.cells #[.slice none 0 0, .slice none 0 0, .slice none 0 0] 34) (.cells #[.slice none 0 0, .slice none 0 0, .slice none 0 0] 34))
  go_enter Tryz.func8, Tryz.ntmps8
  go_wp2_with fail
  refine (l_toImageS a0 c0 I _ hI (HA.out.1.below T3.out.2.2.2.2) HS.out).mono ?_
  rintro e w1 ⟨v0, X, rfl, O0, M0, p0, b1⟩
  obtain ⟨x0, y0, rfl⟩ := owns3_shape O0
  obtain ⟨t0, t1, t2, tz, tb⟩ := T3.out
  rw [tz] at O0 M0 b1
  have HP0 := Lib.hid ((b1.block _ (by omega)).trans t0)
  have HP1 := Lib.hid ((b1.block _ (by omega)).trans t1)
  have HP2 := Lib.hid ((b1.block _ (by omega)).trans t2)
  have z1 := b1.size
  rw [tz] at z1
  have HB1 : Hid (Below w.heap.size w w1) := Lib.hid (tb.trans (b1.mono (by omega)))
  have HO0 := Lib.hid O0
  have HM0 := Lib.hid M0
  have HPS := Lib.hid p0
  have e1 : w1.cell? ⟨w.heap.size, 1, none⟩ = some (.slice a1 B.length c1) := (blk HP0.out).1 1 _ rfl
  have e2 : w1.cell? ⟨w.heap.size + 1 + 1, 0, none⟩ = some (.slice none 0 0) := (blk HP2.out).1 0 _ rfl
  have f2 := (blk HP2.out).2.1 0
  have l2 := (blk HP2.out).2.2
  have HB2 : Hid (Below w.heap.size w (w1.setCell ⟨w.heap.size + 1 + 1, 0, none⟩ (.slice x0 X.length y0))) := Lib.hid (HB1.out.setCell (by simp; omega) _)
  clear t0 t1 t2 tz tb O0 M0 p0 b1
  go_wp2_with fail
  refine (l_toIntS a1 c1 B _ hB (HA.out.2.1.below HB2.out)).mono ?_
  rintro e w2 ⟨v1, rfl, O1, b2⟩
  obtain ⟨x1, y1, rfl⟩ := owns_shape O1
  have sz : (w1.setCell ⟨w.heap.size + 1 + 1, 0, none⟩ (.slice x0 X.length y0)).heap.size = w1.heap.size := by simp [World.setCell]
  have QP0 := Lib.hid ((b2.block _ (by rw [sz]; omega)).trans ((set_other (by omega)).trans HP0.out))
  have QP1 := Lib.hid ((b2.block _ (by rw [sz]; omega)).trans ((set_other (by omega)).trans HP1.out))
  have QP2 := Lib.hid ((b2.block _ (by rw [sz]; omega)).trans (heap_setCell_at HP2.out (.slice x0 X.length y0)))
  have z2 := b2.size
  rw [sz] at z2
  have HB3 : Hid (Below w.heap.size w w2) := Lib.hid (HB2.out.trans (b2.mono (by rw [sz]; omega)))
  have HO0' := Lib.hid (owns3_below (owns_set HO0.out (by omega)) b2)
  have HM0' := Lib.hid ((HM0.out.set (by omega)).below b2)
  rw [sz] at O1
  have HO1 := Lib.hid O1
  clear e1 e2 f2 l2 sz O1 b2 HP0 HP1 HP2 HO0 HM0 HB1 HB2
  have e1 : w2.cell? ⟨w.heap.size, 2, none⟩ = some (.slice a2 E.length c2) := (blk QP0.out).1 2 _ rfl
  have e2 : w2.cell? ⟨w.heap.size + 1 + 1, 1, none⟩ = some (.slice none 0 0) := (blk QP2.out).1 1 _ rfl
  have f2 := (blk QP2.out).2.1 1
  have l2 := (blk QP2.out).2.2
  have HB2 : Hid (Below w.heap.size w (w2.setCell ⟨w.heap.size + 1 + 1, 1, none⟩ (.slice x1 B.length y1))) := Lib.hid (HB3.out.setCell (by simp; omega) _)
  go_wp2_with fail
  refine (l_toIntS a2 c2 E _ hE (HA.out.2.2.below HB2.out)).mono ?_
  rintro e w3 ⟨v2, rfl, O2, b3⟩
  obtain ⟨x2, y2, rfl⟩ := owns_shape O2
  have sz : (w2.setCell ⟨w.heap.size + 1 + 1, 1, none⟩ (.slice x1 B.length y1)).heap.size = w2.heap.size := by simp [World.setCell]
  have R1 := Lib.hid ((b3.block _ (by rw [sz]; omega)).trans ((set_other (by omega)).trans QP1.out))
  have R2 := Lib.hid ((b3.block _ (by rw [sz]; omega)).trans (heap_setCell_at QP2.out (.slice x1 B.length y1)))
  have z3 := b3.size
  rw [sz] at z3
  have HB4 : Hid (Below w.heap.size w w3) := Lib.hid (HB2.out.trans (b3.mono (by rw [sz]; omega)))
  have HO0 := Lib.hid (owns3_below (owns_set HO0'.out (by omega)) b3)
  have HM0 := Lib.hid ((HM0'.out.set (by omega)).below b3)
  have HO1' := Lib.hid (owns_below (owns_set HO1.out (by omega)) b3)
  rw [sz] at O2
  have HO2 := Lib.hid O2
  clear e1 e2 f2 l2 sz O2 b3 QP0 QP1 QP2 HO0' HM0' HO1 HB2 HB3
  obtain ⟨c20, c21, c22⟩ := cells3s R2.out
  obtain ⟨d0, d1, d2⟩ := cells3s R1.out
  have g20 := (blk R2.out).2.1 0
  have g21 := (blk R2.out).2.1 1
  have g22 := (blk R2.out).2.1 2
  have g10 := (blk R1.out).2.1 0
  have g11 := (blk R1.out).2.1 1
  have g12 := (blk R1.out).2.1 2
  have m2 := (blk R2.out).2.2
  have m1 := (blk R1.out).2.2
  go_wp2
  refine bodyPost_ret (v := .agg #[.slice x0 X.length y0, .slice x1 B.length y1, .slice x2 E.length y2]) (by simp [results, Tryz.results8, go_sem, d0, d1, d2, m1, m2, c20, c21, c22]) rfl ⟨.slice x0 X.length y0, X, .slice x1 B.length y1, .slice x2 E.length y2, rfl, ?_, ?_, HPS.out, ?_, ?_, ?_⟩
  · exact owns_lo (owns_set (owns_set (owns_set (owns_set HO0.out (by omega)) (by omega)) (by omega)) (by omega)) (by omega)
  · exact (((((HM0.out.set (by omega)).set (by omega)).set (by omega)).set (by omega))).lo (by omega)
  · exact owns_lo (owns_set (owns_set (owns_set (owns_set HO1'.out (by omega)) (by omega)) (by omega)) (by omega)) (by omega)
  · exact owns_lo (owns_set (owns_set (owns_set (owns_set HO2.out (by omega)) (by omega)) (by omega)) (by omega)) (by omega)
  · exact (((HB4.out.setCell (by simp; omega) _).setCell (by simp) _).setCell (by simp) _).setCell (by simp) _

theorem readSp_of {TI TS TN B0 B1 B2 B3 x0 : Nat} {w : World} {a0 a1 a2 : Option Addr} {c0 c1 c2 : Nat} {X : List ImA} {B E : List Int} (h0 : w.ownsRow B0 TI 2 (.slice a0 X.length c0) X.length (imsV X)) (hm : MadeG TS x0 w X) (h1 : w.ownsRow B1 TN 1 (.slice a1 B.length c1) B.length (intV B)) (h2 : w.ownsRow B2 B3 1 (.slice a2 E.length c2) E.length (intV E)) : ReadSp w a0 X a1 B a2 E :=
  ⟨readIms_of h0 hm, readI_of h1, readI_of h2⟩
set_option maxRecDepth 100000 in
set_option maxHeartbeats 1000000 in
theorem l_eqSpace (a0 a1 a2 b0 b1 b2 : Option Addr) (c0 c1 c2 d0 d1 d2 : Nat) (X Y : List ImA) (B E : List Int) (w : World) (h1 : ReadSp w a0 X a1 B a2 E) (h2 : ReadSp w b0 Y b1 B b2 E) (hxy : psI X = psI Y) (hX : X.length ≤ 1048576) (hB : B.length ≤ 1048576) (hE : E.length ≤ 1048576) (hz : ∀ x ∈ X, SmallI x) :
    Calls Tryz.prog 12 #[.agg #[.slice a0 X.length c0, .slice a1 B.length c1, .slice a2 E.length c2], .agg #[.slice b0 Y.length d0, .slice b1 B.length d1, .slice b2 E.length d2]] w fun e w' => e = .returned (.bool true) ∧ Below w.heap.size w w' := by
  have T := Lib.hid (two_new w (.cells #[.slice a0 X.length c0, .slice a1 B.length c1, .slice a2 E.length c2] 34) (.cells #[.slice b0 Y.length d0, .slice b1 B.length d1, .slice b2 E.length d2] 34))
  have EI := Lib.hid (fun W h1 h2 => l_eqImageS a0 b0 c0 d0 X Y W h1 h2 hxy hX hz)
  have H1 := Lib.hid h1
  have H2 := Lib.hid h2
  clear h1 h2 hxy hz
  go_enter Tryz.func12, Tryz.ntmps12
  go_wp2_with fail
  refine (EI.out _ (H1.out.1.below T.out.2.2.2) (H2.out.1.below T.out.2.2.2)).mono ?_
  rintro e w1 ⟨rfl, q1⟩
  have tz := T.out.2.2.1
  have P0 := Lib.hid ((q1.block _ (by omega)).trans T.out.1)
  have P1 := Lib.hid ((q1.block _ (by omega)).trans T.out.2.1)
  have z1 := q1.size
  rw [tz] at z1
  have HB1 : Hid (Below w.heap.size w w1) := Lib.hid (T.out.2.2.2.trans (q1.mono (by omega)))
  clear q1 tz T EI
  obtain ⟨e0, e1, e2⟩ := cells3s P0.out
  obtain ⟨f0, f1, f2⟩ := cells3s P1.out
  go_wp2_with fail
  refine (l_eqInts a1 b1 c1 d1 B _ (H1.out.2.1.below HB1.out) (H2.out.2.1.below HB1.out) (by omega)).mono ?_
  rintro e w2 ⟨rfl, q2⟩
  have z2 := q2.size
  have P20 := Lib.hid ((q2.block _ (by omega)).trans P0.out)
  have P21 := Lib.hid ((q2.block _ (by omega)).trans P1.out)
  have HB2 : Hid (Below w.heap.size w w2) := Lib.hid (HB1.out.trans (q2.mono (by omega)))
  clear q2 e0 e1 e2 f0 f1 f2 P0 P1
  obtain ⟨e0, e1, e2⟩ := cells3s P20.out
  obtain ⟨f0, f1, f2⟩ := cells3s P21.out
  go_wp2_with fail
  refine (l_eqInts a2 b2 c2 d2 E _ (H1.out.2.2.below HB2.out) (H2.out.2.2.below HB2.out) (by omega)).mono ?_
  rintro e w3 ⟨rfl, q3⟩
  have HB3 : Hid (Below w.heap.size w w3) := Lib.hid (HB2.out.trans (q3.mono (by omega)))
  clear q3
  go_wp2
  go_ret
  exact ⟨rfl, HB3.out⟩
end Go.Proofs.YtakgjlpgcepnkaaGreat

/-! The laws' marks: what markText returns -/
namespace Go.Proofs.YtakgjlpgcepnkaaGreat
open Go.RowKit Go.Lib

set_option maxHeartbeats 400000 in
theorem l_mark (ni : Int) (n : Nat) (w : World) (hni : ni = n) (h0 : 0 < n) (h1 : n ≤ 9000000) : Calls Tryz.prog 55 #[.int .i64 ni] w fun e w' => e = .returned (.string (mkT n)) ∧ Below w.heap.size w w' := by
  subst hni
  have hz : decide ((n : Int) ≤ 0) = false := by simp; omega
  have HF : Hid (mkT n = (⟨#[109]⟩ : ByteArray) ++ ⟨(restD n).toArray⟩) := Lib.hid (by rw [restD_pos _ h0]; exact bl_eq (by simp [mkT, ByteArray.data_append]))
  go_enter Tryz.func55, Tryz.ntmps55
  go_wp2
  clear hz
  go_loopw [0, 3] (fun x s wr => ∃ (m : Nat) (t : ByteArray), x = .int .i64 (m : Int) ∧ s = .string t ∧ m ≤ 9000000 ∧ restD m ++ t.data.toList = restD n ∧ Below w.heap.size w wr)
    (fun x _ _ => (intOf x).toNat)
  case atStart => exact ⟨n, ⟨#[]⟩, rfl, rfl, h1, by simp, Below.refl _ _⟩
  case round =>
    obtain ⟨m, t, rfl, rfl, hm, hr, hbel⟩ := hrel
    have HR := Lib.hid hr; clear hr
    have hts := rest_size HR.out (by omega)
    by_cases hm0 : 0 < m
    · have hB := hbel.size
      have hcv := run_convert_bytes_back (P := Tryz.prog) (wr.alloc (.cells #[.int .u8 (figB (m % 10)).toNat] 5)) 117 9 5 ⟨wr.heap.size, 0, none⟩ 1 [figB (m % 10)] Tryz.underlying117 Tryz.underlying5 Tryz.underlying9
        (fun j hj => by
          have hj0 : j = 0 := by simp at hj; omega
          subst hj0
          exact cell_one_new wr (.int .u8 (figB (m % 10)).toNat) 5 0 _ rfl)
      simp only [List.length_cons, List.length_nil, Nat.zero_add] at hcv
      have hfig : ((figB (m % 10)).toNat : Int) = 48 + (m : Int) % 10 := by rw [figB_toNat _ (by omega)]; unfold figN; rw [if_pos (by omega)]; omega
      rw [hfig] at hcv
      have HN := Lib.hid (rest_next HR.out hm0)
      clear hfig
      go_wp2
      go_roundw
      case rel => exact ⟨m / 10, _, by go_num, rfl, by omega, HN.out, hbel.alloc hB _⟩
      case measure => simp [intOf]; omega
    · have hm00 : m = 0 := by omega
      subst hm00
      go_wp2
      go_ret
      exact ⟨ret_str (by rw [HF.out, ← HR.out]; simp [restD, ByteArray.data_append]), hbel⟩

end Go.Proofs.YtakgjlpgcepnkaaGreat

/-! The laws' own functions on spaces: the size, with the sum of all symbols -/
namespace Go.Proofs.YtakgjlpgcepnkaaGreat
open Go.RowKit Go.Lib

/-- How many symbols. -/
def sumI (l : List ImA) : Nat := (l.map fun x => x.l.length).sum
theorem sumI_next (l : List ImA) (k : Nat) (h : k < l.length) : sumI (l.take (k + 1)) = sumI (l.take k) + l[k].l.length := by
  unfold sumI
  rw [List.take_succ_eq_append_getElem h, List.map_append, List.sum_append]
  simp
theorem sumI_ps {X Y : List ImA} (h : psI X = psI Y) : sumI X = sumI Y := by
  have e : ∀ l : List ImA, sumI l = ((psI l).map fun p => p.2.length).sum := fun l => by unfold sumI psI; rw [List.map_map]; rfl
  rw [e, e, h]
/-- The measure of a row of images: -1, or all is small. -/
def SzImsN (l : List ImA) (left : Int) (w : World) (e : Ending) (w' : World) : Prop :=
  ∃ r : Int, e = .returned (.int .i64 r) ∧ Below w.heap.size w w' ∧ (r = -1 ∨ (0 ≤ r ∧ r + (l.length : Int) + (sumI l : Int) ≤ left ∧ ∀ x ∈ l, SmallI x))
set_option maxRecDepth 100000 in
set_option maxHeartbeats 1000000 in
theorem l_szImageN (x : ImA) (left : Int) (w : World) (ha : ArgIm w x) (h0 : 0 ≤ left) (h1 : left ≤ 1048576) :
    Calls Tryz.prog 36 #[.agg #[.string x.s, .slice x.a x.l.length x.c], .int .i64 left] w fun e w' => ∃ r : Int, e = .returned (.int .i64 r) ∧ Below w.heap.size w w' ∧ (r = -1 ∨ (0 ≤ r ∧ r + (x.l.length : Int) ≤ left ∧ SmallI x)) := by
  have HA := Lib.hid ha.1
  have HM := Lib.hid ha.2.1
  have hc := ha.2.2
  clear ha
  obtain ⟨c, l, a, cap⟩ := x
  dsimp only at HA HM hc ⊢
  unfold maxLen at hc
  by_cases hbig : left < (c.size : Int)
  · have hd : decide (left - (c.size : Int) < 0) = true := by simp; omega
    go_enter Tryz.func36, Tryz.ntmps36
    go_wp2
    go_ret
    exact ⟨-1, rfl, (Below.refl _ _).alloc (Nat.le_refl _) _, .inl rfl⟩
  have hd : decide (left - (c.size : Int) < 0) = false := by simp; omega
  obtain ⟨r0, hr0⟩ : ∃ r : Int, left - (c.size : Int) = r := ⟨_, rfl⟩
  have q0 : 0 ≤ r0 := by omega
  have q1 : r0 ≤ 1048576 := by omega
  have HR0 : Hid (r0 + (c.size : Int) = left) := Lib.hid (by omega)
  rw [hr0] at hd
  have HAb := Lib.hid (HA.out.below ((Below.refl w.heap.size w).alloc (Nat.le_refl _) (.cells #[.string c, .slice a l.length cap] 61)))
  go_enter Tryz.func36, Tryz.ntmps36
  go_wp2_with fail
  clear hr0
  refine (l_szSymbolS a cap l r0 _ HM.out HAb.out q0 q1).mono ?_
  rintro e w2 ⟨r2, rfl, b2, hr2⟩
  have HB2 := Lib.hid b2
  clear b2
  rcases hr2 with rfl | ⟨s0, s1⟩
  · go_wp2
    go_ret
    exact ⟨-1, rfl, ((Below.refl _ _).alloc (Nat.le_refl _) _).trans (HB2.out.mono (by simp)), .inl rfl⟩
  have hd2 : decide (r2 < 0) = false := by simp; omega
  go_wp2
  go_ret
  exact ⟨r2, rfl, ((Below.refl _ _).alloc (Nat.le_refl _) _).trans (HB2.out.mono (by simp)), .inr ⟨s0, by have := HR0.out; omega, ⟨by have := HR0.out; dsimp only; omega, by have := HR0.out; dsimp only; omega, fun y hy => by have := sumSy_mem l y hy; have := HR0.out; omega⟩⟩⟩

set_option maxRecDepth 100000 in
set_option maxHeartbeats 1000000 in
theorem l_szImageSN (a : Option Addr) (cap : Nat) (l : List ImA) (left : Int) (w : World) (hm : l.length ≤ maxLen) (ha : ArgIms w a l) (h0 : 0 ≤ left) (h1 : left ≤ 1048576) :
    Calls Tryz.prog 18 #[.slice a l.length cap, .int .i64 left] w (SzImsN l left w) := by
  have HA := Lib.hid ha
  clear ha
  unfold maxLen at hm
  by_cases hbig : left < (l.length : Int)
  · have hd : decide (left - (l.length : Int) < 0) = true := by simp; omega
    go_enter Tryz.func18, Tryz.ntmps18
    go_wp2
    all_goals go_ret
    all_goals exact ⟨-1, rfl, Below.refl _ _, .inl rfl⟩
  have hd : decide (left - (l.length : Int) < 0) = false := by simp; omega
  have g0 : 0 ≤ left - (l.length : Int) := by omega
  go_enter Tryz.func18, Tryz.ntmps18
  go_wp2_with fail
  clear hd
  go_loopw [1, 5] (fun x i wr => ∃ (k : Nat) (r : Int), k ≤ l.length ∧ i = .int .i64 (k : Int) ∧ x = .int .i64 r ∧ 0 ≤ r ∧ r + (l.length : Int) + (sumI (l.take k) : Int) ≤ left ∧ Hid (∀ x ∈ l.take k, SmallI x) ∧ Below w.heap.size w wr) (fun _ i _ => l.length - (RowKit.intOf i).toNat)
  case atStart => exact ⟨0, left - (l.length : Int), Nat.zero_le _, rfl, rfl, g0, by rw [List.take_zero]; show _ + _ + ((0 : Nat) : Int) ≤ left; omega, Lib.hid (fun x hx => by simp at hx), Below.refl _ _⟩
  case round =>
    obtain ⟨k, r, hk, rfl, rfl, r0, r1, HS, hbel⟩ := hrel
    have HB := Lib.hid hbel
    have hB := hbel.size
    by_cases hlt : k < l.length
    · obtain ⟨x, rfl, hx, c0, c1, hln⟩ := (HA.out.below hbel) k hlt
      have HSUM := Lib.hid (sumI_next l k hlt)
      have NX := Lib.hid (smallI_next l k hlt HS.out)
      obtain ⟨y, hy⟩ : ∃ y, l[k] = y := ⟨_, rfl⟩
      rw [hy] at c0 c1 hln NX HSUM
      have HZ := Lib.hid (l_szImageN y r _ hln r0 (by omega))
      obtain ⟨ys, yl, ya, yc⟩ := y
      have HYL : Hid (yl.length = yl.length) := Lib.hid rfl
      dsimp only at c0 c1 HZ
      have k0 : (0 : Int) ≤ (k : Int) := by omega
      have k1 : (k : Int) < (l.length : Int) := by omega
      clear hy hln hbel
      go_wp2_with fail
      refine HZ.out.mono ?_
      rintro e w1 ⟨r', rfl, b1, hr⟩
      have HB1 : Hid (Below w.heap.size w w1) := Lib.hid (HB.out.trans (b1.mono hB))
      clear b1 c0 c1
      rcases hr with rfl | ⟨p0, p1, p2⟩
      · go_wp2
        go_ret
        exact ⟨-1, rfl, HB1.out, .inl rfl⟩
      · have HN := Lib.hid (NX.out p2)
        have hd : decide (r' < 0) = false := by simp; omega
        clear p2 NX
        go_wp2
        go_roundw
        case rel => exact ⟨k + 1, r', by omega, by go_num, rfl, p0, by have := HSUM.out; have := HYL.out; omega, HN, HB1.out⟩
        case measure => simp [RowKit.intOf]; omega
    · have HN : Hid (∀ x ∈ l, SmallI x) := Lib.hid (by have h := HS.out; rwa [List.take_of_length_le (by omega)] at h)
      go_wp2
      go_ret
      exact ⟨r, rfl, HB.out, .inr ⟨r0, by rw [List.take_of_length_le (by omega)] at r1; exact r1, HN.out⟩⟩

set_option maxRecDepth 100000 in
set_option maxHeartbeats 1000000 in
theorem l_szSpaceN (a0 a1 a2 : Option Addr) (c0 c1 c2 : Nat) (I : List ImA) (B E : List Int) (left : Int) (w : World) (hI : I.length ≤ maxLen) (hB : B.length ≤ maxLen) (hE : E.length ≤ maxLen) (ha : ArgSp w a0 I a1 B a2 E) (h0 : 0 ≤ left) (h1 : left ≤ 1048576) :
    Calls Tryz.prog 5 #[.agg #[.slice a0 I.length c0, .slice a1 B.length c1, .slice a2 E.length c2], .int .i64 left] w fun e w' => ∃ r : Int, e = .returned (.int .i64 r) ∧ Below w.heap.size w w' ∧ (r = -1 ∨ (0 ≤ r ∧ r + (I.length : Int) + (sumI I : Int) + (B.length : Int) + (E.length : Int) ≤ left ∧ ∀ x ∈ I, SmallI x)) := by
  have T0 := Lib.hid (heap_alloc_new w (.cells #[.slice a0 I.length c0, .slice a1 B.length c1, .slice a2 E.length c2] 25))
  have TB := Lib.hid ((Below.refl w.heap.size w).alloc (Nat.le_refl _) (.cells #[.slice a0 I.length c0, .slice a1 B.length c1, .slice a2 E.length c2] 25))
  have SI := Lib.hid (l_szImageSN a0 c0 I left _ hI (ha.1.below TB.out) h0 h1)
  clear ha
  go_enter Tryz.func5, Tryz.ntmps5
  go_wp2_with fail
  refine SI.out.mono ?_
  rintro e w1 ⟨r1, rfl, b1, hr1⟩
  have tz : (w.alloc (.cells #[.slice a0 I.length c0, .slice a1 B.length c1, .slice a2 E.length c2] 25)).heap.size = w.heap.size + 1 := by simp
  have z1 := b1.size
  rw [tz] at z1 b1
  have P1 := Lib.hid ((b1.block _ (by omega)).trans T0.out)
  have HB1 : Hid (Below w.heap.size w w1) := Lib.hid (TB.out.trans (b1.mono (by omega)))
  clear tz b1 T0 TB SI
  rcases hr1 with rfl | ⟨p0, p1, p3⟩
  · go_wp2
    go_ret
    exact ⟨-1, rfl, HB1.out, .inl rfl⟩
  have HS := Lib.hid p3
  clear p3
  have hd : decide (r1 < 0) = false := by simp; omega
  obtain ⟨e0, e1, e2⟩ := cells3s P1.out
  go_wp2_with fail
  refine (l_szIntS a1 c1 B.length r1 _ (by omega) (by omega) hB).mono ?_
  rintro e w2 ⟨r2, rfl, rfl, hr2⟩
  rcases hr2 with rfl | ⟨q0, q1⟩
  · go_wp2
    go_ret
    exact ⟨-1, rfl, HB1.out, .inl rfl⟩
  have hd2 : decide (r2 < 0) = false := by simp; omega
  go_wp2_with fail
  refine (l_szIntS a2 c2 E.length r2 _ (by omega) (by omega) hE).mono ?_
  rintro e w2 ⟨r3, rfl, rfl, hr3⟩
  rcases hr3 with rfl | ⟨s0, s1⟩
  · go_wp2
    go_ret
    exact ⟨-1, rfl, HB1.out, .inl rfl⟩
  have hd3 : decide (r3 < 0) = false := by simp; omega
  go_wp2
  go_ret
  exact ⟨r3, rfl, HB1.out, .inr ⟨s0, by omega, HS.out⟩⟩

end Go.Proofs.YtakgjlpgcepnkaaGreat

/-! Marks of spaces: only the shape of what is marked matters -/
namespace Go.Proofs.YtakgjlpgcepnkaaGreat
open Go.RowKit Go.Lib

/-- Rows by their shape. -/
def ShS (lo hi : Nat) (w : World) (a : Option Addr) (n : Nat) : Prop := ∀ j, j < n → ∃ g, a = some ⟨g, 0, none⟩ ∧ lo ≤ g ∧ g < hi ∧ (∃ s u v, w.cell? ⟨g, j * 3, none⟩ = some (.string s) ∧ w.cell? ⟨g, j * 3 + 1, none⟩ = some (.int .i64 u) ∧ w.cell? ⟨g, j * 3 + 2, none⟩ = some (.int .i64 v)) ∧ ∀ i, w.frozen? ⟨g, i, none⟩ = false
def ShM (lo hi : Nat) (w : World) (a : Option Addr) (X : List ImA) : Prop := ∀ j (h : j < X.length), ∃ g, a = some ⟨g, 0, none⟩ ∧ lo ≤ g ∧ g < hi ∧ (∃ s, w.cell? ⟨g, j * 2, none⟩ = some (.string s) ∧ w.cell? ⟨g, j * 2 + 1, none⟩ = some (.slice X[j].a X[j].l.length X[j].c)) ∧ (∀ i, w.frozen? ⟨g, i, none⟩ = false) ∧ ShS lo hi w X[j].a X[j].l.length
theorem ShS.mkd {lo hi n : Nat} {w w' : World} {a : Option Addr} (h : ShS lo hi w a n) (hm : Mkd lo hi w w') : ShS lo hi w' a n := fun j hj => by
  obtain ⟨g, e, h1, h2, ⟨s, u, v, c0, c1, c2⟩, hf⟩ := h j hj
  obtain ⟨y0, e0, s0⟩ := hm.cell _ _ _ c0
  obtain ⟨y1, e1, s1⟩ := hm.cell _ _ _ c1
  obtain ⟨y2, e2, s2⟩ := hm.cell _ _ _ c2
  obtain ⟨t0, rfl⟩ := s0.str
  obtain ⟨t1, rfl⟩ := s1.int
  obtain ⟨t2, rfl⟩ := s2.int
  exact ⟨g, e, h1, h2, ⟨t0, t1, t2, e0, e1, e2⟩, fun i => hm.frz _ _ (World.block_lt_of_cell? w _ c0) (hf i)⟩
theorem ShM.mkd {lo hi : Nat} {w w' : World} {a : Option Addr} {X : List ImA} (h : ShM lo hi w a X) (hm : Mkd lo hi w w') : ShM lo hi w' a X := fun j hj => by
  obtain ⟨g, e, h1, h2, ⟨s, c0, c1⟩, hf, hs⟩ := h j hj
  obtain ⟨y0, e0, s0⟩ := hm.cell _ _ _ c0
  obtain ⟨y1, e1, s1⟩ := hm.cell _ _ _ c1
  obtain ⟨t0, rfl⟩ := s0.str
  obtain rfl := s1.slice
  exact ⟨g, e, h1, h2, ⟨t0, e0, e1⟩, fun i => hm.frz _ _ (World.block_lt_of_cell? w _ c0) (hf i), hs.mkd hm⟩
theorem shS_of {B T c : Nat} {w : World} {a : Option Addr} {l : List SyL} (h : w.ownsRow B T 3 (.slice a l.length c) l.length (sysV l)) : ShS B w.heap.size w a l.length := fun j hj => by
  obtain ⟨g, e, hg, c0, c1, c2⟩ := readSy_of h j hj
  refine ⟨g, e, ?_, hg, ⟨_, _, _, c0, c1, c2⟩, ?_⟩
  · rcases h.2 with ⟨e', _⟩ | ⟨g', cap, cur, e', h1, _⟩
    · injection e' with e' e''; omega
    · injection e' with e'
      rw [e] at e'
      injection e' with e'
      injection e' with e'
      omega
  · subst e
    exact h.frozenAt
theorem shM_of {B TI TS c : Nat} {w : World} {a : Option Addr} {X : List ImA} (h : w.ownsRow B TI 2 (.slice a X.length c) X.length (imsV X)) (hm : MadeG TS B w X) (hr : ReadIms w a X) : ShM B w.heap.size w a X := fun j hj => by
  obtain ⟨g, e, hg, c0, c1, _⟩ := hr j hj
  refine ⟨g, e, ?_, hg, ⟨_, c0, c1⟩, ?_, shS_of (hm _ (List.getElem_mem hj))⟩
  · rcases h.2 with ⟨e', _⟩ | ⟨g', cap, cur, e', h1, _⟩
    · injection e' with e' e''; omega
    · injection e' with e'
      rw [e] at e'
      injection e' with e'
      injection e' with e'
      omega
  · subst e
    exact h.frozenAt
set_option maxHeartbeats 2000000 in
theorem l_markSymM (lo hi : Nat) (a : Option Addr) (n c m : Nat) (w : World) (hs : ShS lo hi w a n) (hl : n ≤ 1048576) (h0 : 0 < m) (h1 : m ≤ 5000000) :
    Calls Tryz.prog 56 #[.slice a n c, .int .i64 (m : Int)] w fun e w' => e = .returned (.int .i64 ((m + 3 * n : Nat) : Int)) ∧ Mkd lo hi w w' := by
  have HS := Lib.hid hs
  clear hs
  go_enter Tryz.func56, Tryz.ntmps56
  go_wp2_with fail
  go_loopw [1, 5] (fun x i wr => ∃ k : Nat, k ≤ n ∧ i = .int .i64 (k : Int) ∧ x = .int .i64 ((m + 3 * k : Nat) : Int) ∧ Hid (Mkd lo hi w wr)) (fun _ i _ => n - (intOf i).toNat)
  case atStart => exact ⟨0, Nat.zero_le _, rfl, rfl, Lib.hid (Mkd.refl _ _ _)⟩
  case round =>
    obtain ⟨k, hk, rfl, rfl, HM⟩ := hrel
    by_cases hlt : k < n
    · have k0 : (0 : Int) ≤ (k : Int) := by omega
      have k1 : (k : Int) < (n : Int) := by omega
      obtain ⟨g, rfl, q1, q2, _⟩ := (HS.out.mkd HM.out) k hlt
      go_wp2_with fail
      refine (l_mark _ (m + 3 * k) _ (by omega) (by omega) (by omega)).mono ?_
      rintro e w1 ⟨rfl, b1⟩
      have HM1 : Hid (Mkd lo hi w w1) := Lib.hid (HM.out.trans (Mkd.below b1))
      clear b1
      obtain ⟨g', e', _, _, ⟨s, u, v, c0, c1, c2⟩, hf⟩ := (HS.out.mkd HM1.out) k hlt
      injection e' with e'
      injection e' with e'
      subst e'
      generalize mkT (m + 3 * k) = z
      have M1 := Mkd.set q1 q2 c0 (v := .string z) (Shp.strs _ _)
      obtain ⟨y1, d1, s1⟩ := M1.cell _ _ _ c1
      have M2 := Mkd.set q1 q2 d1 (v := .int .i64 ((m : Int) + 3 * (k : Int) + 1)) (by obtain ⟨t, rfl⟩ := s1.int; exact Shp.ints _ _)
      obtain ⟨y2, d2, s2⟩ := (M1.trans M2).cell _ _ _ c2
      have M3 := Mkd.set q1 q2 d2 (v := .int .i64 ((m : Int) + 3 * (k : Int) + 1 + 1)) (by obtain ⟨t, rfl⟩ := s2.int; exact Shp.ints _ _)
      have HM2 : Hid (Mkd lo hi w _) := Lib.hid (HM1.out.trans ((M1.trans M2).trans M3))
      clear M1 M2 M3 s1 s2 d1 d2
      go_wp2
      go_roundw
      case rel => exact ⟨k + 1, by omega, by go_num, by go_num, HM2⟩
      case measure => simp [intOf]; omega
    · have hkk : k = n := by omega
      subst hkk
      go_wp2
      go_ret
      exact ⟨rfl, HM.out⟩
end Go.Proofs.YtakgjlpgcepnkaaGreat
