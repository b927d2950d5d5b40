/- The laws' toSymbolS: the program's row made of the argument. -/
import Derived.Test.YtcflojdkaddemabSymLaw
import Derived.Test.YtcflojdkaddemabMakeRowN
import Derived.Test.YtcflojdkaddemabImgPlain
import Derived.Laws.MakeOwn
import Derived.Deep.QuietTactic
import Derived.BigQuiet
namespace Go.Proofs.Ytcflojdkaddemab
open Go.RowKit Go.Lib

set_option maxHeartbeats 1000000 in
theorem l_toSymbolS (a : Option Addr) (cap : Nat) (l : List SyL) (w : World) (hl : l.length ≤ 1048576) (ha : ArgSy w a l) :
    Calls Try.prog 47 #[.slice a l.length cap] w (Syms 54 w.heap.size l w) := by
  have HA := Lib.hid ha
  clear ha
  obtain ⟨i0, hi, hz0, hz1, hz2⟩ := info_parts infoSy
  have hmk := fun W => run_make_rowN (P := Try.prog) 50 54 i0 _ 3 32 Try.underlying50 hi hz0 hz1 hz2 .i64 .i64 l.length l.length (Nat.le_refl _) (by omega) (by omega) W
  obtain ⟨cs, hcs⟩ : ∃ cs, madeCells (Value.agg #[.string ⟨#[]⟩, .int .i64 0, .int .i64 0]).cells (l.length * 3) = cs := ⟨_, rfl⟩
  have hcsz : cs.size = l.length * 3 := by rw [← hcs, size_madeCells]
  rw [hcs] at hmk
  clear hcs hi hz0 hz1 hz2
  have HZ := Lib.hid hcsz
  clear hcsz
  go_enter Try.func47, Try.ntmps47
  go_wp2_with fail
  clear hmk
  go_loopw [4] (fun i wr => ∃ (k : Nat) (R : List Value), k ≤ l.length ∧ i = .int .i64 (k : Int) ∧ R.length = (l.length - k) * 3 ∧ wr.ownsRow w.heap.size 54 3 (.slice (some ⟨w.heap.size, 0, none⟩) l.length l.length) l.length (headSy k l R) ∧ Below w.heap.size w wr) (fun i _ => l.length - (intOf i).toNat)
  case atStart => exact ⟨0, cs.toList, Nat.zero_le _, rfl, by simpa using HZ.out, World.ownsRow_lit _ _ _ (Nat.le_refl _) (by unfold maxLen; omega) HZ.out, (Below.refl _ _).alloc (Nat.le_refl _) _⟩
  case round =>
    obtain ⟨k, R, hk, rfl, hR, hown, hbel⟩ := hrel
    have HO := Lib.hid hown
    have HB := Lib.hid hbel
    have hB := hbel.size
    have hgl : w.heap.size < wr.heap.size := (hown.lt w.heap.size rfl).2
    clear hown
    by_cases hlt : k < l.length
    · obtain ⟨x, rfl, hx, c0, c1, c2, hsz, _, _⟩ := HA.out k hlt
      obtain ⟨y0, y1, y2, R', hRe, hR'⟩ := three R (l.length - (k + 1)) (by rw [hR]; congr 1; omega)
      subst hRe
      have HR' := Lib.hid hR'
      have HS := Lib.hid (headSy_set k l hlt y0 y1 y2 R')
      obtain ⟨t, ht⟩ : ∃ t, l[k] = t := ⟨_, rfl⟩
      rw [ht] at c0 c1 c2 HS
      have d0 : wr.cell? (x.add (k * 3)) = some (.string t.name) := (hbel.cell (by rw [addr_block]; exact hx)).trans c0
      have d1 : wr.cell? ⟨(x.add (k * 3)).block, (x.add (k * 3)).off + 1, none⟩ = some (.int .i64 t.start) := (hbel.cell (p := ⟨_, _, none⟩) (by rw [addr_block]; exact hx)).trans c1
      have d2 : wr.cell? ⟨(x.add (k * 3)).block, (x.add (k * 3)).off + 2, none⟩ = some (.int .i64 t.size) := (hbel.cell (p := ⟨_, _, none⟩) (by rw [addr_block]; exact hx)).trans c2
      have k0 : (0 : Int) ≤ (k : Int) := by omega
      have k1 : (k : Int) < (l.length : Int) := by omega
      clear c0 c1 c2 hbel ht hR hR' hsz
      go_wp2_with fail
      refine (l_toSymbol t.name t.start t.size _).mono ?_
      rintro e w1 ⟨rfl, b1⟩
      have HO1 := Lib.hid (owns3_below HO.out b1)
      have HB1 := Lib.hid (HB.out.trans (b1.mono hB))
      have hs1 := b1.size
      clear b1 d0 d1 d2
      have hlen : (headSy k l (y0 :: y1 :: y2 :: R')).length = l.length * 3 := HO1.out.1
      have cellk : ∀ i, i < 3 → ∃ y, w1.cell? ⟨w.heap.size, k * 3 + i, none⟩ = some y := fun i hi => by
        have := HO1.out.cellAt (k * 3 + i) (by omega)
        rw [this]
        exact ⟨_, List.getElem?_eq_getElem (by omega)⟩
      obtain ⟨z0, e0⟩ := cellk 0 (by omega)
      rw [Nat.add_zero] at e0
      obtain ⟨z1, e1⟩ := cellk 1 (by omega)
      obtain ⟨z2, e2⟩ := cellk 2 (by omega)
      have fr := HO1.out.frozenAt
      have S1 := HO1.out.stored (k * 3) (.string t.name)
      have S2 := S1.1.stored (k * 3 + 1) (.int .i64 t.start)
      have S3 := S2.1.stored (k * 3 + 2) (.int .i64 t.size)
      have HO2 := Lib.hid (HS.out ▸ S3.1)
      have HB2 := Lib.hid (((HB1.out.grown S1.2 (by omega) (fun j hj => by injection hj with e; omega)).grown S2.2 (by simp [World.setCell]; omega) (fun j hj => by injection hj with e; omega)).grown S3.2 (by simp [World.setCell]; omega) (fun j hj => by injection hj with e; omega))
      clear cellk hlen S1 S2 S3
      go_wp2
      go_roundw
      case rel => exact ⟨k + 1, R', by omega, by go_num, HR'.out, HO2.out, HB2.out⟩
      case measure => simp [intOf]; omega
    · have hkk : k = l.length := by omega
      subst hkk
      have hR0 : R = [] := List.length_eq_zero_iff.1 (by rw [hR]; simp)
      subst hR0
      go_wp2
      go_ret
      exact ⟨_, rfl, by have := HO.out; unfold headSy at this; rw [List.take_of_length_le (Nat.le_refl _), List.append_nil] at this; exact this, HB.out⟩
end Go.Proofs.Ytcflojdkaddemab
