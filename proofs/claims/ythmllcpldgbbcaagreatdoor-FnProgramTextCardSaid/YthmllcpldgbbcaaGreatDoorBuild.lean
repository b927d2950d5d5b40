/- The library's strings.Builder in this translation: its check, its writes and its text (the shelf's laying does not fit here: the check's last way is refused by the loader). -/
import Derived.Test.YthmllcpldgbbcaaGreatDoorRows
import Derived.Test.YthmllcpldgbbcaaGreatDoorPlainB
import Derived.Test.YthmllcpldgbbcaaGreatDoorShelfString
import Derived.Lib.Builder
import Derived.Lib.AppendStr
import Derived.Lib.Strings
import Derived.Lib.Walk
import Derived.WalkKit
import Derived.Laws.Externs
import Derived.Outline
import Derived.Lib.Hide
namespace Go.Proofs.YthmllcpldgbbcaaGreatDoor
open Go.RowKit Go.Lib

abbrev tB : TypeId := 46
theorem szB : (Tryz.prog.info? 46).map (·.size) = some 2 := by kernel_rfl
theorem liesB : liesAt Tryz.prog Tryz.prog.depth 46 (2 / Tryz.prog.cellsOf 46) 0 46 1 = true := by kernel_rfl
theorem infoU8 : (Tryz.prog.info? 5).map (fun i => (i.zero, i.size, i.bytes)) = some (some (.int .u8 0), 1, 1) := by kernel_rfl

set_option maxRecDepth 100000 in
theorem b_check (B b : Nat) (bs : List Value) (w : World) (h : IsBuilder 46 5 B b bs w) :
    Calls Tryz.prog 45 #[.pointer (some ⟨b, 0, none⟩)] w fun e w' => e = .returned (.tuple #[]) ∧ BuilderAt 46 5 B b (.pointer (some ⟨b, 0, none⟩)) bs w' ∧ Below B w w' := by
  obtain ⟨j, hj, hjs⟩ := Option.map_eq_some_iff.1 szB
  rcases h with h | h
  · have h0 := h.cell0
    have hsh := h.shape
    have hfz := h.frozen0
    have H := Lib.hid h
    clear h
    go_enter Tryz.func45, Tryz.ntmps45
    go_wp2
    rw [Lib.run_to_unsafe w ⟨b, 0, none⟩ Tryz.underlying44 Tryz.underlying101 hj (by rw [hjs]; decide) hsh (Nat.zero_lt_succ 1)]
    simp only [Result.andThen]
    rw [Oper.upon_value]
    go_wp2
    rw [run_callFunc_extern Tryz.func67 (by kernel_rfl) (by kernel_rfl) (by kernel_rfl) (e := Extern.AbiNoEscape.same) (by kernel_rfl), Lib.run_noEscape]
    simp only [Result.andThen]
    rw [Oper.upon_value]
    go_wp2
    rw [Lib.run_from_unsafe w ⟨b, 0, none⟩ Tryz.underlying101 Tryz.underlying44 hj hsh liesB]
    simp only [Result.andThen]
    rw [Oper.upon_value]
    go_wp2
    go_end0
    exact ⟨rfl, H.out.used _, (Below.refl B w).setCell (p := ⟨b, 0, none⟩) H.out.1 _⟩
  · have h0 := h.cell0
    have H := Lib.hid h
    clear h
    go_enter Tryz.func45, Tryz.ntmps45
    go_wp2
    rw [Lib.run_neq_ptr_same w _ Tryz.underlying44 hj]
    go_wp2
    go_end0
    exact ⟨rfl, H.out, Below.refl B _⟩
/-- A builder that holds the bytes l. -/
def Bld (B b : Nat) (l : List UInt8) (w : World) : Prop := IsBuilder 46 5 B b (byteCells l) w
theorem bld_at {B b : Nat} {p : Value} {bs : List Value} {w : World} (h : BuilderAt 46 5 B b p bs w) : ∃ v, B ≤ b ∧ w.heap[b]? = some (.cells #[p, v] 46 (0, 0)) ∧ w.ownsRow B 5 1 v bs.length bs ∧ v.ownBlock ≠ some b := by
  obtain ⟨h1, v, h2, h3, h4⟩ := h
  exact ⟨v, h1, h2, h3, h4⟩

set_option maxRecDepth 100000 in
set_option maxHeartbeats 1000000 in
theorem b_string (B b : Nat) (l : List UInt8) (s : ByteArray) (w : World) (h : Bld B b l w) (hlen : l.length + s.size ≤ 1000000000) (hBw : B ≤ w.heap.size) :
    Calls Tryz.prog 20 #[.pointer (some ⟨b, 0, none⟩), .string s] w fun e w' => e = .returned (.tuple #[.int .i64 s.size, .nilIface]) ∧ Bld B b (l ++ s.data.toList) w' ∧ Below B w w' := by
  obtain ⟨i0, hi, hz0, hz1, hz2⟩ := info_parts infoU8
  go_enter Tryz.func20, Tryz.ntmps20
  go_wp2_with fail
  refine (b_check B b _ _ h).mono ?_
  rintro e w1 ⟨rfl, h1, hb1⟩
  obtain ⟨v, hB, hbk, hown, hne⟩ := bld_at h1
  obtain ⟨c0, _, _⟩ := blk hbk
  have c1 : w1.cell? ⟨b, 1, none⟩ = some v := c0 1 _ rfl
  have hz := hb1.size
  have hl : (byteCells l).length = l.length := byteCells_length l
  clear c0 h1 h
  go_wp2_with (at_builtin; refine Lib.wpList_append_own_string _ rfl _ _ 22 9 rfl B 5 i0 Tryz.underlying22 Tryz.underlying9 hi hz0 hz1 hz2 _ _ _ rfl hown s rfl ?d3 ?d4 ?d5 ?_)
  case d3 => rw [hl]; unfold maxLen; omega
  case d4 => rw [hl]; omega
  case d5 => omega
  intro v' w2 hown' hgrow _
  have hb2 : w2.heap[b]? = some (.cells #[.pointer (some ⟨b, 0, none⟩), v] 46 (0, 0)) := by
    rw [hgrow.block b (blk hbk).2.2 (fun e => hne e.symm)]
    exact hbk
  have d1 : w2.cell? ⟨b, 1, none⟩ = some v := (blk hb2).1 1 _ rfl
  have f1 := (blk hb2).2.1 1
  obtain ⟨ao, n', cap, rfl⟩ : ∃ ao n' cap, v' = .slice ao n' cap := by
    rcases hown'.2 with ⟨hv, _⟩ | ⟨g, cap, cur, hv, _⟩
    · exact ⟨_, _, _, hv⟩
    · exact ⟨_, _, _, hv⟩
  have HO := Lib.hid hown'
  have HG := Lib.hid ((hb1.grown hgrow (by omega) (fun k hk => (hown.lt k hk).1)).setCell (p := ⟨b, 1, none⟩) hB (.slice ao n' cap))
  have HB2 := Lib.hid hb2
  clear hown' hgrow hown hb2 hbk c1 hl
  go_wp2
  go_ret2
  refine ⟨rfl, .inr ?_, HG.out⟩
  have hc : byteCells (l ++ s.data.toList) = byteCells l ++ Lib.strCells s := by simp [byteCells, Lib.strCells]
  rw [hc]
  exact Lib.BuilderAt.put hB HB2.out (by have := HO.out; rw [List.length_append, Lib.strCells_length, byteCells_length]; exact this) (by decide)

set_option maxRecDepth 100000 in
set_option maxHeartbeats 1000000 in
theorem b_byte (B b : Nat) (l : List UInt8) (c : UInt8) (ci : Int) (hci : ci = (c.toNat : Int)) (w : World) (h : Bld B b l w) (hlen : l.length + 1 ≤ 1000000000) (hBw : B ≤ w.heap.size) :
    Calls Tryz.prog 21 #[.pointer (some ⟨b, 0, none⟩), .int .u8 ci] w fun e w' => e = .returned .nilIface ∧ Bld B b (l ++ [c]) w' ∧ Below B w w' := by
  obtain ⟨i0, hi, hz0, hz1, hz2⟩ := info_parts infoU8
  have HCI := Lib.hid hci
  clear hci
  go_enter Tryz.func21, Tryz.ntmps21
  go_wp2_with fail
  refine (b_check B b _ _ h).mono ?_
  rintro e w1 ⟨rfl, h1, hb1⟩
  obtain ⟨v, hB, hbk, hown, hne⟩ := bld_at h1
  obtain ⟨c0, _, _⟩ := blk hbk
  have c1 : w1.cell? ⟨b, 1, none⟩ = some v := c0 1 _ rfl
  have hz := hb1.size
  have hl : (byteCells l).length = l.length := byteCells_length l
  clear c0 h1 h
  go_wp2_with (at_builtin; refine wpList_append_own _ rfl _ _ 22 rfl B 5 i0 (.int .u8 0) 1 1 Tryz.underlying22 hi hz0 hz1 hz2 rfl (by decide) _ _ _ rfl (hown.alloc _) ⟨w1.heap.size, 0, none⟩ 1 1 [.int .u8 ci] rfl rfl ?d1 ?d2 ?d3 ?d4 ?d5 ?_)
  case d1 => exact cell_one_new _ _ _
  case d2 => intro u hu; simp at hu; subst hu; rfl
  case d3 => rw [hl]; unfold maxLen; omega
  case d4 => rw [hl]; omega
  case d5 => simp; omega
  intro v' w2 hown' hgrow _
  have hlt := (blk hbk).2.2
  have hb2 : w2.heap[b]? = some (.cells #[.pointer (some ⟨b, 0, none⟩), v] 46 (0, 0)) := by
    rw [hgrow.block b (by simp; omega) (fun e => hne e.symm), Below.heap_alloc w1 _ b hlt]
    exact hbk
  have d1 : w2.cell? ⟨b, 1, none⟩ = some v := (blk hb2).1 1 _ rfl
  have f1 := (blk hb2).2.1 1
  obtain ⟨ao, n', cap, rfl⟩ : ∃ ao n' cap, v' = .slice ao n' cap := by
    rcases hown'.2 with ⟨hv, _⟩ | ⟨g, cap, cur, hv, _⟩
    · exact ⟨_, _, _, hv⟩
    · exact ⟨_, _, _, hv⟩
  have HO := Lib.hid hown'
  have HG := Lib.hid (((hb1.alloc (by omega) _).grown hgrow (by simp; omega) (fun k hk => (hown.lt k hk).1)).setCell (p := ⟨b, 1, none⟩) hB (.slice ao n' cap))
  have HB2 := Lib.hid hb2
  clear hown' hgrow hown hb2 hbk c1 hl hlt
  go_wp2
  go_ret
  refine ⟨rfl, .inr ?_, HG.out⟩
  have hc : byteCells (l ++ [c]) = byteCells l ++ [.int .u8 ci] := by rw [HCI.out]; simp [byteCells]
  rw [hc]
  exact Lib.BuilderAt.put hB HB2.out (by have := HO.out; rw [List.length_append, byteCells_length]; exact this) (by decide)
theorem Bld.mono {B b : Nat} {l : List UInt8} {w : World} (h : Bld B b l w) : b < w.heap.size := by rcases h with h | h <;> exact h.lt
end Go.Proofs.YthmllcpldgbbcaaGreatDoor
