/- The program's readTok and ParseTok. -/
import Derived.Test.YthmllcpldgbbcaaGreatDoorShelfFind
import Derived.Test.YthmllcpldgbbcaaGreatDoorPuImpl
import Derived.Test.YthmllcpldgbbcaaGreatDoorErrs
import Derived.Test.YthmllcpldgbbcaaGreatDoorFmtImpl
import Derived.Test.YthmllcpldgbbcaaGreatDoorPlainA
import Derived.Deep.QuietTactic
import Derived.BigQuiet
import Derived.WalkSmall
import Derived.Deep.DeepCutAuto
namespace Go.Proofs.YthmllcpldgbbcaaGreatDoor
open Go.RowKit Go.Lib

/-- What the program's calls into Go's library ask of memory. -/
def Env (w : World) : Prop := (∃ p q : Value, w.var? Tryz.prog "strconv.ErrSyntax" = some #[.iface 167 p] ∧ w.var? Tryz.prog "strconv.ErrRange" = some #[.iface 167 q]) ∧ Tab w
theorem Env.on {w w' : World} (h : Env w) (hb : Below w.heap.size w w') : Env w' := by
  obtain ⟨⟨p, q, hp, hq⟩, ht⟩ := h
  exact ⟨⟨p, q, var_on gS hp hb, var_on gR hq hb⟩, pow_on ht hb⟩
theorem i_pu' (s : ByteArray) (w : World) (h : s.size ≤ 1048576) (hE : Env w) : Calls Tryz.prog 110 #[.string s] w fun e w' => e = .returned (.tuple #[.int .i64 ((puR s.data.toList).1 : Nat), .bool (puR s.data.toList).2]) ∧ Below w.heap.size w w' := by
  obtain ⟨⟨p, q, hp, hq⟩, ht⟩ := hE
  exact (i_pu s w h _ _ p q hp hq ht).mono fun e w' ⟨he, hb⟩ => ⟨he, hb⟩

theorem i_cut_no (s : ByteArray) (w : World) (hs : s.size ≤ 1048576) (h : indexByte s.data.toList 47 = -1) :
    Calls Tryz.prog 46 #[.string s, .string ⟨#[47]⟩] w fun e w' => e = .returned (.tuple #[.string s, .string ⟨#[]⟩, .bool false]) ∧ Below w.heap.size w w' := by
  have HI := Lib.hid (fun W => h ▸ (Tryz.stringslite_Index_one s 47 W))
  clear h
  go_enter Tryz.func46, Tryz.ntmps46
  go_wp2_with fail
  refine (HI.out _).mono ?_
  rintro e w1 ⟨rfl, rfl⟩
  go_wp2
  go_ret3
  exact ⟨rfl, Below.refl _ _⟩
theorem i_cut_yes (s : ByteArray) (o : Nat) (w : World) (hs : s.size ≤ 1048576) (h : indexByte s.data.toList 47 = (o : Int)) (ho : o < s.size) :
    Calls Tryz.prog 46 #[.string s, .string ⟨#[47]⟩] w fun e w' => e = .returned (.tuple #[.string (s.extract 0 o), .string (s.extract (o + 1) s.size), .bool true]) ∧ Below w.heap.size w w' := by
  have HI := Lib.hid (fun W => h ▸ (Tryz.stringslite_Index_one s 47 W))
  clear h
  have h0 : (0 : Int) ≤ (o : Int) := by omega
  have h1 : (o : Int) ≤ (s.size : Int) := by omega
  have h2 : (o : Int) + 1 ≤ (s.size : Int) := by omega
  go_enter Tryz.func46, Tryz.ntmps46
  go_wp2_with fail
  refine (HI.out _).mono ?_
  rintro e w1 ⟨rfl, rfl⟩
  go_wp2_with fail
  have e1 : IntKind.i64.wrap ((o : Int) + 1) = (o : Int) + 1 := IntWalk.i64_in _ (by omega)
  have e2 : (0 : Int) ≤ (o : Int) + 1 := by omega
  have e3 : ((o : Int) + 1).toNat = o + 1 := by omega
  go_quiet (fail)
  clear e1 e2 e3
  go_wp2
  go_ret3
  exact ⟨rfl, below_drewN (Below.refl _ _) _⟩
theorem i_cut_no' (s : ByteArray) (w : World) (hs : s.size ≤ 1048576) (h : indexByte s.data.toList 47 = -1) :
    Calls Tryz.prog 23 #[.string s, .string ⟨#[47]⟩] w fun e w' => e = .returned (.tuple #[.string s, .string ⟨#[]⟩, .bool false]) ∧ Below w.heap.size w w' := by
  have HI := Lib.hid (fun W => i_cut_no s W hs h)
  clear h
  go_enter Tryz.func23, Tryz.ntmps23
  go_wp2_with fail
  refine (HI.out _).mono ?_
  rintro e w1 ⟨rfl, b1⟩
  go_wp2
  go_ret3
  exact ⟨rfl, b1⟩
theorem i_cut_yes' (s : ByteArray) (o : Nat) (w : World) (hs : s.size ≤ 1048576) (h : indexByte s.data.toList 47 = (o : Int)) (ho : o < s.size) :
    Calls Tryz.prog 23 #[.string s, .string ⟨#[47]⟩] w fun e w' => e = .returned (.tuple #[.string (s.extract 0 o), .string (s.extract (o + 1) s.size), .bool true]) ∧ Below w.heap.size w w' := by
  have HI := Lib.hid (fun W => i_cut_yes s o W hs h ho)
  clear h
  go_enter Tryz.func23, Tryz.ntmps23
  go_wp2_with fail
  refine (HI.out _).mono ?_
  rintro e w1 ⟨rfl, b1⟩
  go_wp2
  go_ret3
  exact ⟨rfl, b1⟩

/-- The result's variable, behind what the body has done. -/
theorem res_cellsI {w W : World} (h : Below (w.heap.size + 1) (w.alloc (.cells #[.int .i64 0, .int .i64 0, .string ⟨#[]⟩] 66)) W) :
    W.cell? ⟨w.heap.size, 0, none⟩ = some (.int .i64 0) ∧ W.cell? ⟨w.heap.size, 1, none⟩ = some (.int .i64 0) ∧ W.cell? ⟨w.heap.size, 2, none⟩ = some (.string ⟨#[]⟩) ∧ (∀ i, W.frozen? ⟨w.heap.size, i, none⟩ = false) ∧ Below w.heap.size w W ∧ w.heap.size < W.heap.size :=
  ⟨(h.cell (p := ⟨w.heap.size, 0, none⟩) (by simp)).trans (by simp [go_sem]), (h.cell (p := ⟨w.heap.size, 1, none⟩) (by simp)).trans (by simp [go_sem]), (h.cell (p := ⟨w.heap.size, 2, none⟩) (by simp)).trans (by simp [go_sem]),
    fun i => (h.frozen (p := ⟨w.heap.size, i, none⟩) (by simp)).trans (by have := heap_alloc_new w (.cells #[.int .i64 0, .int .i64 0, .string ⟨#[]⟩] 66); unfold World.frozen?; rw [this]; simp), ((Below.refl w.heap.size w).alloc (Nat.le_refl _) _).trans (h.mono (by omega)), by have := h.size; simp at this; omega⟩
theorem wr_below {w W : World} (h : Below w.heap.size w W) (a b c : Value) : Below w.heap.size w (((W.setCell ⟨w.heap.size, 0, none⟩ a).setCell ⟨w.heap.size, 1, none⟩ b).setCell ⟨w.heap.size, 2, none⟩ c) :=
  ((h.setCell (Nat.le_refl _) _).setCell (Nat.le_refl _) _).setCell (Nat.le_refl _) _
theorem extract_take (s : ByteArray) (o : Nat) : s.extract 0 o = ⟨(s.data.toList.take o).toArray⟩ := bl_eq (by simp [ByteArray.data_extract])
theorem extract_drop (s : ByteArray) (o : Nat) : (s.extract o s.size).data.toList = s.data.toList.drop o := by
  simp only [ByteArray.data_extract, Array.toList_extract, List.extract_eq_take_drop]
  rw [List.take_of_length_le]
  rw [List.length_drop, list_len]
  exact Nat.le_refl _

set_option maxHeartbeats 1000000 in
theorem i_read_op (c : UInt8) (w : World) (h : 0 ≤ indexByte opsL c) :
    Calls Tryz.prog 101 #[.string ⟨#[c]⟩] w fun e w' => e = .returned (.tuple #[tokA (rdZ ⟨#[c]⟩).1, .bool (rdZ ⟨#[c]⟩).2]) ∧ Below w.heap.size w w' := by
  have HR := Lib.hid (rdZ_op c h)
  obtain ⟨m, hm⟩ : ∃ m, indexByte opsL c = m := ⟨_, rfl⟩
  have HC : Hid (∀ W : World, Calls Tryz.prog 108 #[.string ⟨#[43, 45, 42, 60, 61]⟩, .string ⟨#[c]⟩] W fun e w' => e = .returned (.bool true) ∧ w' = W) := Lib.hid (fun W => (Tryz.strings_Contains_one ⟨#[43, 45, 42, 60, 61]⟩ c W).mono fun e w' ⟨he, hw⟩ => ⟨by rw [he]; show Ending.returned (.bool (decide (0 ≤ indexByte opsL c))) = _; rw [decide_eq_true h], hw⟩)
  have HI : Hid (∀ W : World, Calls Tryz.prog 109 #[.string ⟨#[43, 45, 42, 60, 61]⟩, .string ⟨#[c]⟩] W fun e w' => e = .returned (.int .i64 m) ∧ w' = W) := Lib.hid (fun W => (Tryz.strings_Index_one ⟨#[43, 45, 42, 60, 61]⟩ c W).mono fun e w' ⟨he, hw⟩ => ⟨by rw [he]; show Ending.returned (.int .i64 (indexByte opsL c)) = _; rw [hm], hw⟩)
  rw [hm] at h HR
  have m5 : m ≤ 5 := by
    rw [← hm] at h
    obtain ⟨o, ho⟩ := Int.eq_ofNat_of_zero_le h
    have := (List.getElem?_eq_some_iff.1 (indexByte_some ho).1).1
    simp [opsL] at this
    omega
  clear hm
  go_enter Tryz.func101, Tryz.ntmps101
  go_wp2_with fail
  refine (HC.out _).mono ?_
  rintro e w1 ⟨rfl, rfl⟩
  go_wp2_with fail
  refine (HI.out _).mono ?_
  rintro e w1 ⟨rfl, rfl⟩
  go_wp2
  refine bodyPost_ret (v := .tuple #[.agg #[.int .i64 (2 + m), .int .i64 0, .string ⟨#[]⟩], .bool true]) (by simp [results, Tryz.results101, go_sem]) rfl ⟨?_, ?_⟩
  · rw [HR.out]; rfl
  · exact (Below.refl _ _).alloc (Nat.le_refl _) _

set_option maxRecDepth 100000 in
set_option maxHeartbeats 2000000 in
theorem i_read_no (s : ByteArray) (w : World) (hs : s.size ≤ 1048576) (hE : Env w) (h : ¬ (s.size = 1 ∧ 0 ≤ indexByte opsL (s.data.toList.headD 0))) :
    Calls Tryz.prog 101 #[.string s] w fun e w' => e = .returned (.tuple #[tokA (rdZ s).1, .bool (rdZ s).2]) ∧ Below w.heap.size w w' := by
  have HE := Lib.hid hE
  have HN := Lib.hid h
  clear hE h
  have HB0 := Lib.hid ((Below.refl (w.heap.size + 1) (w.alloc (.cells #[.int .i64 0, .int .i64 0, .string ⟨#[]⟩] 66))))
  go_enter Tryz.func101, Tryz.ntmps101
  go_upto_region 1 with fail
  go_cut [17] (fun s17 wx => s17 = .bool false ∧ wx = w.alloc (.cells #[.int .i64 0, .int .i64 0, .string ⟨#[]⟩] 66))
  case first =>
    by_cases h1 : s.size = 1
    · obtain ⟨c, rfl⟩ := one_byte s h1
      have hno : ¬ 0 ≤ indexByte opsL c := fun hy => HN.out ⟨h1, by simpa using hy⟩
      have HC : Hid (∀ W : World, Calls Tryz.prog 108 #[.string ⟨#[43, 45, 42, 60, 61]⟩, .string ⟨#[c]⟩] W fun e w' => e = .returned (.bool false) ∧ w' = W) := Lib.hid (fun W => (Tryz.strings_Contains_one ⟨#[43, 45, 42, 60, 61]⟩ c W).mono fun e w' ⟨he, hw⟩ => ⟨by rw [he]; show Ending.returned (.bool (decide (0 ≤ indexByte opsL c))) = _; rw [decide_eq_false hno], hw⟩)
      clear hno h1
      go_wp2_with fail
      refine (HC.out _).mono ?_
      rintro e w1 ⟨rfl, rfl⟩
      go_wp2_with fail
      go_meet
      exact ⟨rfl, rfl⟩
    · have hd : ((s.size : Int) == 1) = false := by rw [beq_eq_false_iff_ne]; omega
      clear h1
      go_wp2_with fail
      go_meet
      exact ⟨rfl, rfl⟩
  case rest =>
    obtain ⟨rfl, rfl⟩ := hcut
    by_cases hi : 0 ≤ indexByte s.data.toList 47
    · obtain ⟨o, ho⟩ := Int.eq_ofNat_of_zero_le hi
      have hol : o < s.size := by have := (List.getElem?_eq_some_iff.1 (indexByte_some ho).1).1; rwa [list_len] at this
      have hr := rdZ_call s HN.out o ho
      rw [← extract_take s o, ← extract_drop s (o + 1)] at hr
      have HR := Lib.hid hr
      have HCUT := Lib.hid (fun W => i_cut_yes' s o W hs ho hol)
      have hds : (s.extract (o + 1) s.size).size ≤ 1048576 := by rw [← list_len, extract_drop, List.length_drop, list_len]; omega
      obtain ⟨nm, hnm⟩ : ∃ nm, s.extract 0 o = nm := ⟨_, rfl⟩
      obtain ⟨dg, hdg⟩ : ∃ dg, s.extract (o + 1) s.size = dg := ⟨_, rfl⟩
      rw [hnm, hdg] at HCUT HR
      rw [hdg] at hds
      have HP := Lib.hid (fun W hW => i_pu' dg W hds hW)
      obtain ⟨n, hn⟩ : ∃ n, (puR dg.data.toList).1 = n := ⟨_, rfl⟩
      obtain ⟨b, hb⟩ : ∃ b, (puR dg.data.toList).2 = b := ⟨_, rfl⟩
      rw [hn, hb] at HP HR
      clear hi ho hr hnm hdg hn hb
      go_wp2_with fail
      refine (HCUT.out _).mono ?_
      rintro e w1 ⟨rfl, b1⟩
      have HB1 := Lib.hid (HB0.out.trans (b1.mono (by simp)))
      obtain ⟨_, _, _, _, eb, _⟩ := res_cellsI HB1.out
      have HE1 := Lib.hid (HE.out.on eb)
      have z1 : w.heap.size + 1 ≤ w1.heap.size := by have := b1.size; simp at this; omega
      clear b1 eb
      go_wp2_with fail
      refine (HP.out _ HE1.out).mono ?_
      rintro e w2 ⟨rfl, b2⟩
      have HB2 := Lib.hid (HB1.out.trans (b2.mono z1))
      clear b2
      obtain ⟨q0, q1, q2, qf, qb, ql⟩ := res_cellsI HB2.out
      have HQB := Lib.hid qb
      clear qb
      go_wp2
      refine bodyPost_ret (v := .tuple #[.agg #[.int .i64 7, .int .i64 (n : Int), .string nm], .bool b]) (by simp [results, Tryz.results101, go_sem, q0, q1, q2]) rfl ⟨?_, ?_⟩
      · rw [HR.out]; rfl
      · exact wr_below HQB.out _ _ _
    · have ho : indexByte s.data.toList 47 = -1 := by have := indexByte_ge s.data.toList 47; omega
      have HCUT := Lib.hid (fun W => i_cut_no' s W hs ho)
      have HP := Lib.hid (fun W hW => i_pu' s W hs hW)
      have HR1 := Lib.hid (rdZ_num s HN.out ho)
      have HR0 := Lib.hid (rdZ_var s HN.out ho)
      obtain ⟨n, hn⟩ : ∃ n, (puR s.data.toList).1 = n := ⟨_, rfl⟩
      obtain ⟨b, hb⟩ : ∃ b, (puR s.data.toList).2 = b := ⟨_, rfl⟩
      rw [hn, hb] at HP
      rw [hn, hb] at HR1
      rw [hb] at HR0
      clear hi ho hn hb
      go_wp2_with fail
      refine (HCUT.out _).mono ?_
      rintro e w1 ⟨rfl, b1⟩
      have HB1 := Lib.hid (HB0.out.trans (b1.mono (by simp)))
      obtain ⟨_, _, _, _, eb, _⟩ := res_cellsI HB1.out
      have HE1 := Lib.hid (HE.out.on eb)
      have z1 : w.heap.size + 1 ≤ w1.heap.size := by have := b1.size; simp at this; omega
      clear b1 eb
      cases b
      · have HR := Lib.hid (HR0.out (by simp))
        clear HR0 HR1
        go_wp2_with fail
        refine (HP.out _ HE1.out).mono ?_
        rintro e w2 ⟨rfl, b2⟩
        have HB2 := Lib.hid (HB1.out.trans (b2.mono z1))
        clear b2
        obtain ⟨q0, q1, q2, qf, qb, ql⟩ := res_cellsI HB2.out
        have HQB := Lib.hid qb
        clear qb
        go_wp2
        refine bodyPost_ret (v := .tuple #[.agg #[.int .i64 1, .int .i64 0, .string s], .bool true]) (by simp [results, Tryz.results101, go_sem, q0, q1, q2]) rfl ⟨?_, ?_⟩
        · rw [HR.out]; rfl
        · exact wr_below HQB.out _ _ _
      · have HR := Lib.hid (HR1.out rfl)
        clear HR0 HR1
        go_wp2_with fail
        refine (HP.out _ HE1.out).mono ?_
        rintro e w2 ⟨rfl, b2⟩
        have HB2 := Lib.hid (HB1.out.trans (b2.mono z1))
        clear b2
        obtain ⟨q0, q1, q2, qf, qb, ql⟩ := res_cellsI HB2.out
        have HQB := Lib.hid qb
        clear qb
        go_wp2
        refine bodyPost_ret (v := .tuple #[.agg #[.int .i64 0, .int .i64 (n : Int), .string ⟨#[]⟩], .bool true]) (by simp [results, Tryz.results101, go_sem, q0, q1, q2]) rfl ⟨?_, ?_⟩
        · rw [HR.out]; rfl
        · exact wr_below HQB.out _ _ _
theorem i_read (s : ByteArray) (w : World) (hs : s.size ≤ 1048576) (hE : Env w) :
    Calls Tryz.prog 101 #[.string s] w fun e w' => e = .returned (.tuple #[tokA (rdZ s).1, .bool (rdZ s).2]) ∧ Below w.heap.size w w' := by
  by_cases h : s.size = 1 ∧ 0 ≤ indexByte opsL (s.data.toList.headD 0)
  · obtain ⟨c, rfl⟩ := one_byte s h.1
    exact i_read_op c w (by simpa using h.2)
  · exact i_read_no s w hs hE h
end Go.Proofs.YthmllcpldgbbcaaGreatDoor
