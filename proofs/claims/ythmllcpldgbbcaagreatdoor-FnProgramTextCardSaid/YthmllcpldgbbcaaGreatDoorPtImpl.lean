/- The program's ParseTok. -/
import Derived.Test.YthmllcpldgbbcaaGreatDoorReadImpl
namespace Go.Proofs.YthmllcpldgbbcaaGreatDoor
open Go.RowKit Go.Lib

theorem rdZ_size (s : ByteArray) : (rdZ s).1.name.size ≤ s.size := by
  unfold rdZ
  split
  · exact Nat.zero_le _
  split
  · show (ByteArray.mk (s.data.toList.take _).toArray).size ≤ s.size
    rw [← list_len, ← list_len s]
    simp
    omega
  split
  · exact Nat.zero_le _
  · exact Nat.le_refl _
theorem ptI_no (s : ByteArray) (h : (rdZ s).2 = false) : ptI s = (⟨0, 0, ⟨#[]⟩⟩, false) := by unfold ptI; rw [if_neg (by rw [h]; simp)]
theorem ptI_bad (s : ByteArray) (h : tokB (rdZ s).1 = false) : ptI s = (⟨0, 0, ⟨#[]⟩⟩, false) := by unfold ptI; rw [if_neg (by rw [h]; simp)]
theorem ptI_yes (s : ByteArray) (h : (rdZ s).2 = true) (hb : tokB (rdZ s).1 = true) : ptI s = ((rdZ s).1, true) := by unfold ptI; rw [if_pos ⟨h, hb⟩]

theorem fin_cells {W : World} {g : Nat} {x y z u0 u1 u2 : Value} (q0 : W.cell? ⟨g, 0, none⟩ = some u0) (q1 : W.cell? ⟨g, 1, none⟩ = some u1) (q2 : W.cell? ⟨g, 2, none⟩ = some u2) (ql : g < W.heap.size) (o : Obj) :
    ((((W.setCell ⟨g, 0, none⟩ x).setCell ⟨g, 1, none⟩ y).setCell ⟨g, 2, none⟩ z).alloc o).cell? ⟨g, 0, none⟩ = some x ∧ ((((W.setCell ⟨g, 0, none⟩ x).setCell ⟨g, 1, none⟩ y).setCell ⟨g, 2, none⟩ z).alloc o).cell? ⟨g, 1, none⟩ = some y ∧ ((((W.setCell ⟨g, 0, none⟩ x).setCell ⟨g, 1, none⟩ y).setCell ⟨g, 2, none⟩ z).alloc o).cell? ⟨g, 2, none⟩ = some z := by
  have hs : g < (((W.setCell ⟨g, 0, none⟩ x).setCell ⟨g, 1, none⟩ y).setCell ⟨g, 2, none⟩ z).heap.size := by simpa [World.setCell] using ql
  refine ⟨?_, ?_, ?_⟩ <;> rw [World.cell?_alloc_lt _ _ _ hs] <;> simp [go_sem, q0, q1, q2]

set_option maxHeartbeats 2000000 in
theorem i_ptok (s : ByteArray) (w : World) (hs : s.size ≤ 1048576) (hE : Env w) :
    Calls Tryz.prog 89 #[.string s] w fun e w' => e = .returned (.tuple #[tokA (ptI s).1, .bool (ptI s).2]) ∧ Below w.heap.size w w' := by
  have HE := Lib.hid hE
  clear hE
  have HB0 := Lib.hid ((Below.refl (w.heap.size + 1) (w.alloc (.cells #[.int .i64 0, .int .i64 0, .string ⟨#[]⟩] 66))))
  have HE0 : Hid (Env (w.alloc (.cells #[.int .i64 0, .int .i64 0, .string ⟨#[]⟩] 66))) := Lib.hid (HE.out.on ((Below.refl _ _).alloc (Nat.le_refl _) _))
  have HRD := Lib.hid (fun W hW => i_read s W hs hW)
  have h0 := Lib.hid (ptI_no s)
  have h1 := Lib.hid (ptI_bad s)
  have h2 := Lib.hid (ptI_yes s)
  have hsz := rdZ_size s
  obtain ⟨t, ht⟩ : ∃ t, (rdZ s).1 = t := ⟨_, rfl⟩
  obtain ⟨ok, hok⟩ : ∃ ok, (rdZ s).2 = ok := ⟨_, rfl⟩
  rw [ht, hok] at HRD
  rw [hok] at h0
  rw [ht] at h1 hsz
  rw [ht, hok] at h2
  clear ht hok
  have hnm : t.name.size ≤ maxLen := by unfold maxLen; omega
  have HT : Hid (∀ W : World, Calls Tryz.prog 91 #[.agg #[.int .i64 t.kind, .int .i64 t.num, .string t.name]] W fun e w' => e = .returned (.bool (tokB t)) ∧ Below W.heap.size W w') := Lib.hid (fun W => i_tok t.kind t.num t.name W hnm)
  obtain ⟨tb, htb⟩ : ∃ tb, tokB t = tb := ⟨_, rfl⟩
  rw [htb] at HT h1 h2
  clear htb
  unfold tokA at HRD
  cases ok
  · have HR := Lib.hid (h0.out rfl)
    clear h0 h1 h2
    go_enter Tryz.func89, Tryz.ntmps89
    go_wp2_with fail
    refine (HRD.out _ HE0.out).mono ?_
    rintro e w1 ⟨rfl, b1⟩
    have HB1 := Lib.hid (HB0.out.trans (b1.mono (by simp)))
    have z1 : w.heap.size + 1 ≤ w1.heap.size := by have := b1.size; simp at this; omega
    clear b1
    obtain ⟨q0, q1, q2, qf, qb, ql⟩ := res_cellsI HB1.out
    have HQB := Lib.hid qb
    clear qb
    have f0 := fun o => (fin_cells (x := .int .i64 0) (y := .int .i64 0) (z := .string ⟨#[]⟩) q0 q1 q2 ql o).1
    have f1 := fun o => (fin_cells (x := .int .i64 0) (y := .int .i64 0) (z := .string ⟨#[]⟩) q0 q1 q2 ql o).2.1
    have f2 := fun o => (fin_cells (x := .int .i64 0) (y := .int .i64 0) (z := .string ⟨#[]⟩) q0 q1 q2 ql o).2.2
    go_wp2
    refine bodyPost_ret (v := .tuple #[.agg #[.int .i64 0, .int .i64 0, .string ⟨#[]⟩], .bool false]) (by simp [results, Tryz.results89, go_sem, f0, f1, f2]) rfl ⟨?_, ?_⟩
    · rw [HR.out]; rfl
    · exact (wr_below HQB.out _ _ _).alloc (by simp [World.setCell]; omega) _
  · cases tb
    · have HR := Lib.hid (h1.out rfl)
      clear h0 h1 h2
      go_enter Tryz.func89, Tryz.ntmps89
      go_wp2_with fail
      refine (HRD.out _ HE0.out).mono ?_
      rintro e w1 ⟨rfl, b1⟩
      have HB1 := Lib.hid (HB0.out.trans (b1.mono (by simp)))
      have z1 : w.heap.size + 1 ≤ w1.heap.size := by have := b1.size; simp at this; omega
      clear b1
      go_wp2_with fail
      refine (HT.out _).mono ?_
      rintro e w2 ⟨rfl, b2⟩
      have HB2 := Lib.hid ((HB1.out.alloc z1 _).trans (b2.mono (by simp; omega)))
      clear b2
      obtain ⟨q0, q1, q2, qf, qb, ql⟩ := res_cellsI HB2.out
      have HQB := Lib.hid qb
      clear qb
      go_wp2
      refine bodyPost_ret (v := .tuple #[.agg #[.int .i64 0, .int .i64 0, .string ⟨#[]⟩], .bool false]) (by simp [results, Tryz.results89, go_sem, q0, q1, q2]) rfl ⟨?_, ?_⟩
      · rw [HR.out]; rfl
      · exact wr_below HQB.out _ _ _
    · have HR := Lib.hid (h2.out rfl rfl)
      clear h0 h1 h2
      go_enter Tryz.func89, Tryz.ntmps89
      go_wp2_with fail
      refine (HRD.out _ HE0.out).mono ?_
      rintro e w1 ⟨rfl, b1⟩
      have HB1 := Lib.hid (HB0.out.trans (b1.mono (by simp)))
      have z1 : w.heap.size + 1 ≤ w1.heap.size := by have := b1.size; simp at this; omega
      clear b1
      go_wp2_with fail
      refine (HT.out _).mono ?_
      rintro e w2 ⟨rfl, b2⟩
      have HB2 := Lib.hid ((HB1.out.alloc z1 _).trans (b2.mono (by simp; omega)))
      have d0 : w2.cell? ⟨w1.heap.size, 0, none⟩ = some (.int .i64 t.kind) := (b2.cell (p := ⟨w1.heap.size, 0, none⟩) (by simp)).trans (by simp [go_sem])
      have d1 : w2.cell? ⟨w1.heap.size, 1, none⟩ = some (.int .i64 t.num) := (b2.cell (p := ⟨w1.heap.size, 1, none⟩) (by simp)).trans (by simp [go_sem])
      have d2 : w2.cell? ⟨w1.heap.size, 2, none⟩ = some (.string t.name) := (b2.cell (p := ⟨w1.heap.size, 2, none⟩) (by simp)).trans (by simp [go_sem])
      clear b2
      obtain ⟨q0, q1, q2, qf, qb, ql⟩ := res_cellsI HB2.out
      have HQB := Lib.hid qb
      clear qb
      go_wp2
      refine bodyPost_ret (v := .tuple #[.agg #[.int .i64 t.kind, .int .i64 t.num, .string t.name], .bool true]) (by simp [results, Tryz.results89, go_sem, q0, q1, q2]) rfl ⟨?_, ?_⟩
      · rw [HR.out]; rfl
      · exact wr_below HQB.out _ _ _
end Go.Proofs.YthmllcpldgbbcaaGreatDoor
