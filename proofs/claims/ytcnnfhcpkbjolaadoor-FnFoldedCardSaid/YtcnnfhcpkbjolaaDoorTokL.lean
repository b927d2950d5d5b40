/- Plain facts: The laws' own functions on one token: its size, and the program's token made of it; The laws' own functions on rows of tokens: the size, and the program's row made of it; The laws' toTokS: the program's row made of the argument; The laws' eqTokS: two rows that hold the same tokens are equal. Nothing of the program. -/
import Derived.Test.YtcnnfhcpkbjolaaDoorRows
import Derived.Test.YtcnnfhcpkbjolaaDoorPlainA
import Derived.Test.YtcnnfhcpkbjolaaDoorRowM
import Derived.Outline
import Derived.Lib.Hide
import Derived.Below
import Derived.Laws.MakeOwn
import Derived.Deep.QuietTactic
import Derived.BigQuiet
import Derived.Deep.RegionHeld3
/-! The laws' own functions on one token: its size, and the program's token made of it -/
namespace Go.Proofs.YtcnnfhcpkbjolaaDoor
open Go.RowKit Go.Lib

theorem l_szTok (k n : Int) (s : ByteArray) (left : Int) (w : World) (hm : s.size ≤ maxLen) (h0 : 0 ≤ left) (h1 : left ≤ 1048576) (h2 : (s.size : Int) ≤ left) :
    Calls Tryd.prog 101 #[.agg #[.int .i64 k, .int .i64 n, .string s], .int .i64 left] w fun e w' => e = .returned (.int .i64 (left - (s.size : Int))) ∧ Below w.heap.size w w' := by
  unfold maxLen at hm
  go_enter Tryd.func101, Tryd.ntmps101
  go_wp2
  all_goals go_ret
  all_goals exact ⟨rfl, (Below.refl _ _).alloc (Nat.le_refl _) _⟩
theorem l_szTok_big (k n : Int) (s : ByteArray) (left : Int) (w : World) (hm : s.size ≤ maxLen) (h0 : 0 ≤ left) (h1 : left ≤ 1048576) (h2 : left < (s.size : Int)) :
    Calls Tryd.prog 101 #[.agg #[.int .i64 k, .int .i64 n, .string s], .int .i64 left] w fun e w' => e = .returned (.int .i64 (-1)) ∧ Below w.heap.size w w' := by
  unfold maxLen at hm
  go_enter Tryd.func101, Tryd.ntmps101
  go_wp2
  all_goals go_ret
  all_goals exact ⟨rfl, (Below.refl _ _).alloc (Nat.le_refl _) _⟩

theorem l_toTok (k n : Int) (s : ByteArray) (w : World) :
    Calls Tryd.prog 104 #[.agg #[.int .i64 k, .int .i64 n, .string s]] w fun e w' => e = .returned (.agg #[.int .i64 k, .int .i64 n, .string s]) ∧ Below w.heap.size w w' := by
  go_enter Tryd.func104, Tryd.ntmps104
  go_wp2
  refine bodyPost_ret (v := .agg #[.int .i64 k, .int .i64 n, .string s]) (by simp [results, Tryd.results104, go_sem]) rfl ⟨rfl, ?_⟩
  exact (((Below.refl _ _).alloc (Nat.le_refl _) _).alloc (by simp) _).alloc (by simp; omega) _
end Go.Proofs.YtcnnfhcpkbjolaaDoor

/-! The laws' own functions on rows of tokens: the size, and the program's row made of it -/
namespace Go.Proofs.YtcnnfhcpkbjolaaDoor
open Go.RowKit Go.Lib

/-- The measure that the laws take: -1, or all is small and what is left. -/
def SzT2 (l : List TokL) (left : Int) (w : World) (e : Ending) (w' : World) : Prop :=
  ∃ r : Int, e = .returned (.int .i64 r) ∧ Below w.heap.size w w' ∧ (r = -1 ∨ (0 ≤ r ∧ r + ((l.length : Int) + (sumN l : Int)) ≤ left))

set_option maxHeartbeats 1000000 in
theorem l_szTokS (a : Option Addr) (cap : Nat) (l : List TokL) (left : Int) (w : World) (hm : l.length ≤ maxLen) (ha : ArgT w a l) (h0 : 0 ≤ left) (h1 : left ≤ 1048576) :
    Calls Tryd.prog 72 #[.slice a l.length cap, .int .i64 left] w (SzT2 l left w) := by
  have HA := Lib.hid ha
  clear ha
  unfold maxLen at hm
  by_cases hbig : left < (l.length : Int)
  · have hd : decide (left - (l.length : Int) < 0) = true := by simp; omega
    go_enter Tryd.func72, Tryd.ntmps72
    go_wp2
    all_goals go_ret
    all_goals exact ⟨-1, rfl, Below.refl _ _, .inl rfl⟩
  have hd : decide (left - (l.length : Int) < 0) = false := by simp; omega
  have g0 : 0 ≤ left - (l.length : Int) := by omega
  go_enter Tryd.func72, Tryd.ntmps72
  go_wp2_with fail
  clear hd
  go_loopw [1, 5] (fun x i wr => ∃ k : Nat, k ≤ l.length ∧ i = .int .i64 (k : Int) ∧ x = .int .i64 (left - (l.length : Int) - (sumN (l.take k) : Int)) ∧ (l.length : Int) + (sumN (l.take k) : Int) ≤ left ∧ Below w.heap.size w wr) (fun _ i _ => l.length - (intOf i).toNat)
  case atStart => exact ⟨0, Nat.zero_le _, rfl, by simp [sumN], by simp [sumN]; omega, Below.refl _ _⟩
  case round =>
    obtain ⟨k, hk, rfl, rfl, hle, hbel⟩ := hrel
    have HB := Lib.hid hbel
    have hB := hbel.size
    obtain ⟨r, hr⟩ : ∃ r : Int, left - (l.length : Int) - (sumN (l.take k) : Int) = r := ⟨_, rfl⟩
    have hr0 : 0 ≤ r := by omega
    have hr1 : r ≤ 1048576 := by omega
    by_cases hlt : k < l.length
    · obtain ⟨x, rfl, hx, c0, c1, c2, hsz, _, _⟩ := HA.out k hlt
      have HS := Lib.hid (sumN_snoc l k hlt)
      obtain ⟨t, ht⟩ : ∃ t, l[k] = t := ⟨_, rfl⟩
      rw [ht] at c0 c1 c2 hsz HS
      have d0 : wr.cell? (x.add (k * 3)) = some (.int .i64 t.kind) := (hbel.cell (by rw [addr_block]; exact hx)).trans c0
      have d1 : wr.cell? ⟨(x.add (k * 3)).block, (x.add (k * 3)).off + 1, none⟩ = some (.int .i64 t.num) := (hbel.cell (p := ⟨_, _, none⟩) (by rw [addr_block]; exact hx)).trans c1
      have d2 : wr.cell? ⟨(x.add (k * 3)).block, (x.add (k * 3)).off + 2, none⟩ = some (.string t.name) := (hbel.cell (p := ⟨_, _, none⟩) (by rw [addr_block]; exact hx)).trans c2
      have k0 : (0 : Int) ≤ (k : Int) := by omega
      have k1 : (k : Int) < (l.length : Int) := by omega
      have HR := Lib.hid hr
      rw [hr]
      clear c0 c1 c2 hbel hr ht
      by_cases hs : (t.name.size : Int) ≤ r
      · go_wp2_with fail
        refine (l_szTok t.kind t.num t.name r _ hsz hr0 hr1 hs).mono ?_
        rintro e w1 ⟨rfl, b1⟩
        have HB1 := Lib.hid (HB.out.trans (b1.mono hB))
        clear b1
        have hd : decide (r - (t.name.size : Int) < 0) = false := by simp; omega
        go_wp2
        go_roundw
        case rel => exact ⟨k + 1, by omega, by go_num, by rw [HS.out, ← HR.out]; go_num, by rw [HS.out]; have := HR.out; omega, HB1.out⟩
        case measure => simp [intOf]; omega
      · have hs' : r < (t.name.size : Int) := by omega
        go_wp2_with fail
        refine (l_szTok_big t.kind t.num t.name r _ hsz hr0 hr1 hs').mono ?_
        rintro e w1 ⟨rfl, b1⟩
        have HB1 := Lib.hid (HB.out.trans (b1.mono hB))
        clear b1
        go_wp2
        go_ret
        exact ⟨-1, rfl, HB1.out, .inl rfl⟩
    · have hkk : k = l.length := by omega
      subst hkk
      have HS := Lib.hid (sumN_all l)
      have HR := Lib.hid hr
      rw [hr]
      clear hr
      go_wp2
      go_ret
      exact ⟨r, rfl, HB.out, .inr ⟨hr0, by have := HR.out; have := HS.out; omega⟩⟩
end Go.Proofs.YtcnnfhcpkbjolaaDoor

/-! The laws' toTokS: the program's row made of the argument -/
namespace Go.Proofs.YtcnnfhcpkbjolaaDoor
open Go.RowKit Go.Lib

set_option maxHeartbeats 1000000 in
theorem l_toTokS (a : Option Addr) (cap : Nat) (l : List TokL) (w : World) (hl : l.length ≤ 1048576) (ha : ArgT w a l) :
    Calls Tryd.prog 76 #[.slice a l.length cap] w (Toks 83 w.heap.size l w) := by
  have HA := Lib.hid ha
  clear ha
  obtain ⟨i0, hi, hz0, hz1, hz2⟩ := info_parts infoT
  have hmk := fun W => run_make_rowN (P := Tryd.prog) 46 83 i0 _ 3 32 Tryd.underlying46 hi hz0 hz1 hz2 .i64 .i64 l.length l.length (Nat.le_refl _) (by omega) (by omega) W
  obtain ⟨cs, hcs⟩ : ∃ cs, madeCells (Value.agg #[.int .i64 0, .int .i64 0, .string ⟨#[]⟩]).cells (l.length * 3) = cs := ⟨_, rfl⟩
  have hcsz : cs.size = l.length * 3 := by rw [← hcs, size_madeCells]
  rw [hcs] at hmk
  clear hcs hi hz0 hz1 hz2
  have HZ := Lib.hid hcsz
  clear hcsz
  go_enter Tryd.func76, Tryd.ntmps76
  go_wp2_with fail
  clear hmk
  go_loopw [4] (fun i wr => ∃ (k : Nat) (R : List Value), k ≤ l.length ∧ i = .int .i64 (k : Int) ∧ R.length = (l.length - k) * 3 ∧ wr.ownsRow w.heap.size 83 3 (.slice (some ⟨w.heap.size, 0, none⟩) l.length l.length) l.length (headT k l R) ∧ Below w.heap.size w wr) (fun i _ => l.length - (intOf i).toNat)
  case atStart => exact ⟨0, cs.toList, Nat.zero_le _, rfl, by simpa using HZ.out, World.ownsRow_lit _ _ _ (Nat.le_refl _) (by unfold maxLen; omega) HZ.out, (Below.refl _ _).alloc (Nat.le_refl _) _⟩
  case round =>
    obtain ⟨k, R, hk, rfl, hR, hown, hbel⟩ := hrel
    have HO := Lib.hid hown
    have HB := Lib.hid hbel
    have hB := hbel.size
    have hgl : w.heap.size < wr.heap.size := (hown.lt w.heap.size rfl).2
    clear hown
    by_cases hlt : k < l.length
    · obtain ⟨x, rfl, hx, c0, c1, c2, hsz, _, _⟩ := HA.out k hlt
      obtain ⟨y0, y1, y2, R', hRe, hR'⟩ := three R (l.length - (k + 1)) (by rw [hR]; congr 1; omega)
      subst hRe
      have HR' := Lib.hid hR'
      have HS := Lib.hid (headT_set k l hlt y0 y1 y2 R')
      obtain ⟨t, ht⟩ : ∃ t, l[k] = t := ⟨_, rfl⟩
      rw [ht] at c0 c1 c2 HS
      have d0 : wr.cell? (x.add (k * 3)) = some (.int .i64 t.kind) := (hbel.cell (by rw [addr_block]; exact hx)).trans c0
      have d1 : wr.cell? ⟨(x.add (k * 3)).block, (x.add (k * 3)).off + 1, none⟩ = some (.int .i64 t.num) := (hbel.cell (p := ⟨_, _, none⟩) (by rw [addr_block]; exact hx)).trans c1
      have d2 : wr.cell? ⟨(x.add (k * 3)).block, (x.add (k * 3)).off + 2, none⟩ = some (.string t.name) := (hbel.cell (p := ⟨_, _, none⟩) (by rw [addr_block]; exact hx)).trans c2
      have k0 : (0 : Int) ≤ (k : Int) := by omega
      have k1 : (k : Int) < (l.length : Int) := by omega
      clear c0 c1 c2 hbel ht hR hR' hsz
      go_wp2_with fail
      refine (l_toTok t.kind t.num t.name _).mono ?_
      rintro e w1 ⟨rfl, b1⟩
      have HO1 := Lib.hid (owns3_below HO.out b1)
      have HB1 := Lib.hid (HB.out.trans (b1.mono hB))
      have hs1 := b1.size
      clear b1 d0 d1 d2
      have hlen : (headT k l (y0 :: y1 :: y2 :: R')).length = l.length * 3 := HO1.out.1
      have cellk : ∀ i, i < 3 → ∃ y, w1.cell? ⟨w.heap.size, k * 3 + i, none⟩ = some y := fun i hi => by
        have := HO1.out.cellAt (k * 3 + i) (by omega)
        rw [this]
        exact ⟨_, List.getElem?_eq_getElem (by omega)⟩
      obtain ⟨z0, e0⟩ := cellk 0 (by omega)
      rw [Nat.add_zero] at e0
      obtain ⟨z1, e1⟩ := cellk 1 (by omega)
      obtain ⟨z2, e2⟩ := cellk 2 (by omega)
      have fr := HO1.out.frozenAt
      have S1 := HO1.out.stored (k * 3) (.int .i64 t.kind)
      have S2 := S1.1.stored (k * 3 + 1) (.int .i64 t.num)
      have S3 := S2.1.stored (k * 3 + 2) (.string t.name)
      have HO2 := Lib.hid (HS.out ▸ S3.1)
      have HB2 := Lib.hid (((HB1.out.grown S1.2 (by omega) (fun j hj => by injection hj with e; omega)).grown S2.2 (by simp [World.setCell]; omega) (fun j hj => by injection hj with e; omega)).grown S3.2 (by simp [World.setCell]; omega) (fun j hj => by injection hj with e; omega))
      clear cellk hlen S1 S2 S3
      go_wp2
      go_roundw
      case rel => exact ⟨k + 1, R', by omega, by go_num, HR'.out, HO2.out, HB2.out⟩
      case measure => simp [intOf]; omega
    · have hkk : k = l.length := by omega
      subst hkk
      have hR0 : R = [] := List.length_eq_zero_iff.1 (by rw [hR]; simp)
      subst hR0
      go_wp2
      go_ret
      exact ⟨_, rfl, by have := HO.out; unfold headT at this; rw [List.take_of_length_le (Nat.le_refl _), List.append_nil] at this; exact this, HB.out⟩
end Go.Proofs.YtcnnfhcpkbjolaaDoor

/-! The laws' eqTokS: two rows that hold the same tokens are equal -/
namespace Go.Proofs.YtcnnfhcpkbjolaaDoor
open Go.RowKit Go.Lib

theorem l_eqTok (k n : Int) (s : ByteArray) (w : World) :
    Calls Tryd.prog 105 #[.agg #[.int .i64 k, .int .i64 n, .string s], .agg #[.int .i64 k, .int .i64 n, .string s]] w fun e w' => e = .returned (.bool true) ∧ Below w.heap.size w w' := by
  go_enter Tryd.func105, Tryd.ntmps105
  go_wp2
  go_ret
  exact ⟨rfl, ((Below.refl _ _).alloc (Nat.le_refl _) _).alloc (by simp) _⟩

set_option maxHeartbeats 1000000 in
theorem l_eqTokS (a b : Option Addr) (c d : Nat) (l : List TokL) (w : World) (ha : ReadT w a l) (hb : ReadT w b l) (hl : l.length ≤ 1048576) :
    Calls Tryd.prog 78 #[.slice a l.length c, .slice b l.length d] w fun e w' => e = .returned (.bool true) ∧ Below w.heap.size w w' := by
  have HA := Lib.hid ha
  have HB := Lib.hid hb
  clear ha hb
  go_enter Tryd.func78, Tryd.ntmps78
  go_wp2_with fail
  go_loopw [5] (fun i wr => ∃ (k : Nat), k ≤ l.length ∧ i = .int .i64 (k : Int) ∧ Below w.heap.size w wr) (fun i _ => l.length - (intOf i).toNat)
  case atStart => exact ⟨0, Nat.zero_le _, rfl, Below.refl _ _⟩
  case round =>
    obtain ⟨k, hk, rfl, hbel⟩ := hrel
    have HBE := Lib.hid hbel
    have hB := hbel.size
    by_cases hlt : k < l.length
    · obtain ⟨g, rfl, hg, c0, c1, c2⟩ := HA.out k hlt
      obtain ⟨g', rfl, hg', c0', c1', c2'⟩ := HB.out k hlt
      have k0 : (0 : Int) ≤ (k : Int) := by omega
      have k1 : (k : Int) < (l.length : Int) := by omega
      obtain ⟨t, ht⟩ : ∃ t, l[k] = t := ⟨_, rfl⟩
      rw [ht] at c0 c1 c2 c0' c1' c2'
      have d0 : wr.cell? ⟨g, k * 3, none⟩ = some (.int .i64 t.kind) := (hbel.cell (p := ⟨g, _, none⟩) hg).trans c0
      have d1 : wr.cell? ⟨g, k * 3 + 1, none⟩ = some (.int .i64 t.num) := (hbel.cell (p := ⟨g, _, none⟩) hg).trans c1
      have d2 : wr.cell? ⟨g, k * 3 + 2, none⟩ = some (.string t.name) := (hbel.cell (p := ⟨g, _, none⟩) hg).trans c2
      have d0' : wr.cell? ⟨g', k * 3, none⟩ = some (.int .i64 t.kind) := (hbel.cell (p := ⟨g', _, none⟩) hg').trans c0'
      have d1' : wr.cell? ⟨g', k * 3 + 1, none⟩ = some (.int .i64 t.num) := (hbel.cell (p := ⟨g', _, none⟩) hg').trans c1'
      have d2' : wr.cell? ⟨g', k * 3 + 2, none⟩ = some (.string t.name) := (hbel.cell (p := ⟨g', _, none⟩) hg').trans c2'
      have gw : g < wr.heap.size := by omega
      have gw' : g' < wr.heap.size := by omega
      clear HA HB c0 c1 c2 c0' c1' c2' ht hbel
      go_wp2_with fail
      go_region_held3 (fun w' => w'.cell? ⟨g, k * 3, none⟩ = some (.int .i64 t.kind) ∧ w'.cell? ⟨g, k * 3 + 1, none⟩ = some (.int .i64 t.num) ∧ w'.cell? ⟨g, k * 3 + 2, none⟩ = some (.string t.name) ∧
          w'.cell? ⟨g', k * 3, none⟩ = some (.int .i64 t.kind) ∧ w'.cell? ⟨g', k * 3 + 1, none⟩ = some (.int .i64 t.num) ∧ w'.cell? ⟨g', k * 3 + 2, none⟩ = some (.string t.name))
        (first
          | go_keep
          | (go_split_ands
             refine ⟨(b1.cell (p := ⟨g, _, none⟩) gw).trans ?_, (b1.cell (p := ⟨g, _, none⟩) gw).trans ?_, (b1.cell (p := ⟨g, _, none⟩) gw).trans ?_, (b1.cell (p := ⟨g', _, none⟩) gw').trans ?_, (b1.cell (p := ⟨g', _, none⟩) gw').trans ?_, (b1.cell (p := ⟨g', _, none⟩) gw').trans ?_⟩ <;> assumption))
        (first
        | (go_at_call 105; refine (l_eqTok _ _ _ _).mono ?_; rintro e w1 ⟨rfl, b1⟩))
      all_goals
        have HB1 := Lib.hid (HBE.out.drew.trans (b1.mono hB))
        clear b1
        go_wp2
        go_roundw
        case rel => exact ⟨k + 1, by omega, by go_num, HB1.out⟩
        case measure => simp [intOf]; omega
    · go_wp2
      go_ret
      exact ⟨rfl, HBE.out⟩
end Go.Proofs.YtcnnfhcpkbjolaaDoor
