/- The program's FormatExpr. -/
import Derived.Test.YthmllcpldgbbcaaGreatDoorShelfJoin
import Derived.Test.YthmllcpldgbbcaaGreatDoorEokImpl
import Derived.Test.YthmllcpldgbbcaaGreatDoorFmtImpl
import Derived.Test.YthmllcpldgbbcaaGreatDoorPlainA
import Derived.Test.YthmllcpldgbbcaaGreatDoorMakeRow
namespace Go.Proofs.YthmllcpldgbbcaaGreatDoor
open Go.RowKit Go.Lib

theorem infoSt : (Tryz.prog.info? 9).map (fun i => (i.zero, i.size, i.bytes)) = some (some (.string ⟨#[]⟩), 1, 16) := by kernel_rfl

set_option maxHeartbeats 2000000 in
theorem i_fexpr_no (a : Option Addr) (cap : Nat) (l : List TokL) (w : World) (hl : l.length ≤ 1048576) (hr : ReadT w a l) (hn : NamesI l) (hb : exprB l = false) :
    Calls Tryz.prog 26 #[.slice a l.length cap] w fun e w' => e = .returned (.string (fexZ l)) ∧ Below w.heap.size w w' := by
  have HV := Lib.hid (fexZ_no l hb)
  have S := Lib.hid (fun W h => hb ▸ i_exprok a cap l W hl h hn)
  have HR := Lib.hid hr
  clear hr hn hb
  go_enter Tryz.func26, Tryz.ntmps26
  go_wp2_with fail
  refine (S.out _ HR.out).mono ?_
  rintro e w1 ⟨rfl, b1⟩
  have HB1 := Lib.hid b1
  clear b1
  go_wp2
  go_ret
  exact ⟨ret_s HV.out.symm, HB1.out⟩

set_option maxHeartbeats 2000000 in
theorem i_fexpr_yes (a : Option Addr) (cap : Nat) (l : List TokL) (w : World) (hr : ReadT w a l) (hn : NamesI l) (hb : exprB l = true) (htab : Tab w) :
    Calls Tryz.prog 26 #[.slice a l.length cap] w fun e w' => e = .returned (.string (fexZ l)) ∧ Below w.heap.size w w' := by
  have HV := Lib.hid (fexZ_yes l hb)
  obtain ⟨l0, l20⟩ := expr_len l hb
  have hjl := jn_len l l.length (Nat.le_refl _)
  rw [List.take_of_length_le (Nat.le_refl _)] at hjl
  have S := Lib.hid (fun W h => hb ▸ i_exprok a cap l W (by omega) h hn)
  have HR := Lib.hid hr
  have HN := Lib.hid hn
  have HTAB := Lib.hid htab
  clear hr hn hb htab
  obtain ⟨i0, hi, hz0, hz1, hz2⟩ := info_parts infoSt
  have hmk := fun W => run_make_rowN (P := Tryz.prog) 29 9 i0 _ 1 16 Tryz.underlying29 hi hz0 hz1 hz2 .i64 .i64 l.length l.length (Nat.le_refl _) (by omega) (by omega) W
  obtain ⟨cs, hcs⟩ : ∃ cs, madeCells (Value.string ⟨#[]⟩).cells (l.length * 1) = cs := ⟨_, rfl⟩
  have hcsz : cs.size = l.length * 1 := by rw [← hcs, size_madeCells]
  rw [hcs] at hmk
  clear hcs hi hz0 hz1 hz2
  have HZ := Lib.hid hcsz
  clear hcsz
  go_enter Tryz.func26, Tryz.ntmps26
  go_wp2_with fail
  refine (S.out _ HR.out).mono ?_
  rintro e w0 ⟨rfl, b0⟩
  have HB0 := Lib.hid b0
  have z0 := b0.size
  clear b0
  go_wp2_with fail
  clear hmk
  go_loopw [4, 5, 14] (fun _ _ i wr => ∃ (k : Nat) (R : List Value), k ≤ l.length ∧ i = .int .i64 (k : Int) ∧ R.length = l.length - k ∧ wr.ownsRow w0.heap.size 9 1 (.slice (some ⟨w0.heap.size, 0, none⟩) l.length l.length) l.length (headS k l R) ∧ Below w.heap.size w wr) (fun _ _ i _ => l.length - (RowKit.intOf i).toNat)
  case atStart => exact ⟨0, cs.toList, Nat.zero_le _, rfl, by have := HZ.out; simpa using this, World.ownsRow_lit _ _ _ (Nat.le_refl _) (by unfold maxLen; omega) HZ.out, HB0.out.alloc z0 _⟩
  case round =>
    obtain ⟨k, R, hk, rfl, hR, hown, hbel⟩ := hrel
    have HO := Lib.hid hown
    have HB := Lib.hid hbel
    have hB := hbel.size
    have HR1 := Lib.hid (HR.out.below hbel)
    have hgl : w0.heap.size < wr.heap.size := (hown.lt w0.heap.size rfl).2
    clear hown hbel
    by_cases hlt : k < l.length
    · obtain ⟨g, rfl, hg, c0, c1, c2⟩ := HR1.out k hlt
      have hsz := HN.out k hlt
      obtain ⟨y0, R', hRe⟩ : ∃ y R', R = y :: R' := by
        cases R with
        | nil => simp at hR; omega
        | cons y R' => exact ⟨y, R', rfl⟩
      subst hRe
      have HR' : Hid (R'.length = l.length - (k + 1)) := Lib.hid (by simp at hR; omega)
      have HS := Lib.hid (headS_set k l hlt y0 R')
      obtain ⟨t, ht⟩ : ∃ t, l[k] = t := ⟨_, rfl⟩
      rw [ht] at c0 c1 c2 HS hsz
      have HF := Lib.hid (fun W hW => i_fmt t.kind t.num t.name W hsz (pow_on HTAB.out hW))
      obtain ⟨r, hr⟩ : ∃ r, fmtT t = r := ⟨_, rfl⟩
      rw [show fmtT ⟨t.kind, t.num, t.name⟩ = r from hr] at HF
      rw [hr] at HS
      have k0 : (0 : Int) ≤ (k : Int) := by omega
      have k1 : (k : Int) < (l.length : Int) := by omega
      clear ht hr hR
      go_wp2_with fail
      refine (HF.out _ (HB.out.alloc hB _)).mono ?_
      rintro e w1 ⟨rfl, b1⟩
      have HO0 := Lib.hid (owns3_below HO.out ((Below.refl wr.heap.size wr).alloc (Nat.le_refl _) (.cells #[.int .i64 t.kind, .int .i64 t.num, .string t.name] 66)))
      have HO1 := Lib.hid (owns3_below HO0.out b1)
      have HB1 := Lib.hid ((HB.out.alloc hB _).trans (b1.mono (by simp; omega)))
      have hs1 : wr.heap.size ≤ w1.heap.size := by have := b1.size; simp at this; omega
      clear b1 c0 c1 c2
      have hlen : (headS k l (y0 :: R')).length = l.length * 1 := HO1.out.1
      obtain ⟨z0', e0⟩ : ∃ y, w1.cell? ⟨w0.heap.size, k, none⟩ = some y := by
        rw [HO1.out.cellAt k (by omega)]
        exact ⟨_, List.getElem?_eq_getElem (by omega)⟩
      have fr := HO1.out.frozenAt
      have S1 := HO1.out.stored k (.string r)
      have HO2 := Lib.hid (HS.out ▸ S1.1)
      have HB2 := Lib.hid (HB1.out.grown S1.2 (by omega) (fun j hj => by injection hj with e; omega))
      clear hlen S1
      go_wp2
      go_roundw
      case rel => exact ⟨k + 1, R', by omega, by go_num, HR'.out, HO2.out, HB2.out⟩
      case measure => simp [RowKit.intOf]; omega
    · have hkk : k = l.length := by omega
      have hR0 : R = [] := List.length_eq_zero_iff.1 (by rw [hR]; omega)
      subst hR0
      have hcells : ∀ (j : Nat) x, (fmtsL l)[j]? = some x → wr.cell? ⟨w0.heap.size, 0 + j, none⟩ = some (.string x) := fun j x hx => by
        have hj : j < l.length := by have := (List.getElem?_eq_some_iff.1 hx).1; unfold fmtsL at this; rwa [List.length_map] at this
        rw [Nat.zero_add, HO.out.cellAt j (by omega)]
        unfold headS strV
        rw [hkk, List.take_of_length_le (Nat.le_refl _), List.append_nil, List.getElem?_map, hx]
        rfl
      have hfl : (fmtsL l).length = l.length := by unfold fmtsL; rw [List.length_map]
      have J := Tryz.strings_Join w0.heap.size 0 l.length (fmtsL l) ⟨#[32]⟩ wr hcells hgl (by rw [hfl]; omega) (by rw [hfl]; exact Nat.le_refl _) (by show (jn l).length ≤ _; omega)
      rw [hfl] at J
      have HJ := Lib.hid J
      clear hkk hR hcells hfl J
      go_wp2_with fail
      refine HJ.out.mono ?_
      rintro e w1 ⟨rfl, b1⟩
      have HB1 := Lib.hid (HB.out.trans (b1.mono hB))
      clear b1
      go_wp2
      go_ret
      exact ⟨ret_s (by rw [HV.out]; rfl), HB1.out⟩
theorem i_fexpr (a : Option Addr) (cap : Nat) (l : List TokL) (w : World) (hl : l.length ≤ 1048576) (hr : ReadT w a l) (hn : NamesI l) (htab : Tab w) :
    Calls Tryz.prog 26 #[.slice a l.length cap] w fun e w' => e = .returned (.string (fexZ l)) ∧ Below w.heap.size w w' := by
  cases hb : exprB l
  · exact i_fexpr_no a cap l w hl hr hn hb
  · exact i_fexpr_yes a cap l w hr hn hb htab
end Go.Proofs.YthmllcpldgbbcaaGreatDoor
