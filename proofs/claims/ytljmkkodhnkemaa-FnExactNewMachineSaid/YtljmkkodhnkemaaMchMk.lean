/- Marks of machines, and what they hold. -/
import Derived.Test.YtljmkkodhnkemaaMchVl
import Derived.Test.YtljmkkodhnkemaaMarkInts
namespace Go.Proofs.Ytljmkkodhnkemaa
open Go.RowKit Go.Lib

/-- Outside lo .. hi nothing has changed. -/
structure Fro (lo hi : Nat) (w w' : World) : Prop where
  os : w'.os = w.os
  tape : w'.tape = w.tape
  output : w'.output = w.output
  size : w.heap.size ≤ w'.heap.size
  block : ∀ k, k < w.heap.size → k < lo ∨ hi ≤ k → w'.heap[k]? = w.heap[k]?
theorem Fro.trans {lo hi : Nat} {w w' w'' : World} (h : Fro lo hi w w') (h' : Fro lo hi w' w'') : Fro lo hi w w'' :=
  ⟨h'.os.trans h.os, h'.tape.trans h.tape, h'.output.trans h.output, Nat.le_trans h.size h'.size, fun k hk ho => (h'.block k (Nat.lt_of_lt_of_le hk h.size) ho).trans (h.block k hk ho)⟩
theorem Fro.below {lo hi : Nat} {w w' : World} (h : Below w.heap.size w w') : Fro lo hi w w' := ⟨h.os, h.tape, h.output, h.size, fun k hk _ => h.block k hk⟩
theorem Fro.grown {lo hi : Nat} {w w' : World} {v : Value} (h : w.grownBy w' v.ownBlock) (hv : ∀ g, v.ownBlock = some g → lo ≤ g ∧ g < hi) : Fro lo hi w w' :=
  ⟨h.os, h.tape, h.output, h.size, fun k hk ho => h.block k hk (fun e => by have := hv k e.symm; omega)⟩
theorem Fro.toBelow {lo hi B : Nat} {w w' : World} (h : Fro lo hi w w') (hB : B ≤ lo) (hs : B ≤ w.heap.size) : Below B w w' := ⟨h.os, h.tape, h.output, h.size, fun k hk => h.block k (by omega) (.inl (by omega))⟩
set_option maxRecDepth 100000 in
set_option maxHeartbeats 2000000 in
theorem l_markMachine (m : McL) (a0 a1 : Option Addr) (c0 c1 k B hi : Nat) (w : World) (O1 : w.ownsRow B 3 1 (.slice a0 m.st.length c0) m.st.length (intV m.st)) (O2 : w.ownsRow B 3 1 (.slice a1 m.out.length c1) m.out.length (intV m.out)) (hap : Ap (.slice a0 m.st.length c0) (.slice a1 m.out.length c1))
    (hB : B ≤ w.heap.size) (hh : hi ≤ w.heap.size) (g1 : ∀ g, (Value.slice a0 m.st.length c0).ownBlock = some g → g < hi) (g2 : ∀ g, (Value.slice a1 m.out.length c1).ownBlock = some g → g < hi) (hk : k + m.st.length ≤ 1048576) (l2 : m.out.length ≤ 1048576) :
    Calls Try.prog 16 #[mcA m (.slice a0 m.st.length c0) (.slice a1 m.out.length c1), .int .i64 (k : Int)] w fun e w' => e = .returned (.int .i64 ((k + m.st.length + m.out.length : Nat) : Int)) ∧ w'.ownsRow B 3 1 (.slice a0 m.st.length c0) m.st.length (intV (mki k m.st.length)) ∧ w'.ownsRow B 3 1 (.slice a1 m.out.length c1) m.out.length (intV (mki (k + m.st.length) m.out.length)) ∧ Fro B hi w w' := by
  obtain ⟨pc, sp, fp, st, out, stt, val⟩ := m
  unfold mcA mcRow
  dsimp only at O1 O2 hap g1 g2 hk l2 ⊢
  have T0 := Lib.hid (heap_alloc_new w (.cells #[.int .i64 pc, .int .i64 sp, .int .i64 fp, .slice a0 st.length c0, .slice a1 out.length c1, .int .i64 stt, .int .i64 val] 27))
  have TB := Lib.hid ((Below.refl w.heap.size w).alloc (Nat.le_refl _) (.cells #[.int .i64 pc, .int .i64 sp, .int .i64 fp, .slice a0 st.length c0, .slice a1 out.length c1, .int .i64 stt, .int .i64 val] 27))
  have tz : (w.alloc (.cells #[.int .i64 pc, .int .i64 sp, .int .i64 fp, .slice a0 st.length c0, .slice a1 out.length c1, .int .i64 stt, .int .i64 val] 27)).heap.size = w.heap.size + 1 := by simp
  have Q1 := Lib.hid (owns_below O1 TB.out)
  have Q2 := Lib.hid (owns_below O2 TB.out)
  have G1 : Hid (∀ g, (Value.slice a0 st.length c0).ownBlock = some g → B ≤ g ∧ g < hi) := Lib.hid (fun g e => ⟨(O1.lt g e).1, g1 g e⟩)
  have G2 : Hid (∀ g, (Value.slice a1 out.length c1).ownBlock = some g → B ≤ g ∧ g < hi) := Lib.hid (fun g e => ⟨(O2.lt g e).1, g2 g e⟩)
  have HAP := Lib.hid hap
  have HH := Lib.hid hh
  have C1 := Lib.hid (l_markInts a0 c0 st k B _ Q1.out (by rw [tz]; omega) (by omega) (by omega))
  have C2 := Lib.hid (fun (W : World) (ho : W.ownsRow B 3 1 (.slice a1 out.length c1) out.length (intV out)) hb => l_markInts a1 c1 out (k + st.length) B W ho hb l2 hk)
  obtain ⟨sn, hsn⟩ : ∃ x, st.length = x := ⟨_, rfl⟩
  obtain ⟨on, hon⟩ : ∃ x, out.length = x := ⟨_, rfl⟩
  rw [hsn] at T0 TB tz Q1 Q2 G1 HAP C1 C2 hk ⊢
  rw [hon] at T0 TB tz Q1 Q2 G2 HAP C1 C2 ⊢
  clear O1 O2 hap g1 g2 hh hsn hon l2
  go_enter Try.func16, Try.ntmps16
  go_wp2_with fail
  refine C1.out.mono ?_
  rintro e w1 ⟨rfl, N1, b1⟩
  have F1 : Hid (Fro B hi w w1) := Lib.hid ((Fro.below TB.out).trans (Fro.grown b1 G1.out))
  have P1 := Lib.hid ((b1.block w.heap.size (by rw [tz]; omega) (fun e => by have h := (G1.out _ e.symm).2; have := HH.out; omega)).trans T0.out)
  have R1 := Lib.hid N1
  have R2 := Lib.hid (Q2.out.kept b1 (by
    cases h : (Value.slice a1 on c1).ownBlock with
    | none => exact .inl rfl
    | some g => exact .inr (fun e => HAP.out g e.symm h)))
  have z1 := b1.size
  rw [tz] at z1
  clear b1 N1 tz T0 TB Q1 Q2 C1
  obtain ⟨⟨j0, j1, j2, j3, j4, j5, j6⟩, _, _⟩ := res7 P1.out
  go_wp2_with fail
  refine (C2.out _ R2.out (by omega)).mono ?_
  rintro e w2 ⟨rfl, N2, b2⟩
  have F2 : Hid (Fro B hi w w2) := Lib.hid (F1.out.trans (Fro.grown b2 G2.out))
  have R3 := Lib.hid N2
  have R4 := Lib.hid (R1.out.kept b2 (by
    cases h : (Value.slice a0 sn c0).ownBlock with
    | none => exact .inl rfl
    | some g => exact .inr (fun e => HAP.out g h e.symm)))
  clear b2 N2 C2 R1 R2 j0 j1 j2 j3 j4 j5 j6
  go_wp2
  go_ret
  exact ⟨rfl, R4.out, R3.out, F2.out⟩
set_option maxRecDepth 100000 in
set_option maxHeartbeats 2000000 in
theorem l_heldMachine (m : McL) (a0 a1 : Option Addr) (c0 c1 k : Nat) (w : World) (r1 : ReadI w a0 (mki k m.st.length)) (r2 : ReadI w a1 (mki (k + m.st.length) m.out.length)) (hk : k + m.st.length ≤ 1048576) (l2 : m.out.length ≤ 1048576) :
    Calls Try.prog 17 #[mcA m (.slice a0 m.st.length c0) (.slice a1 m.out.length c1), .int .i64 (k : Int)] w fun e w' => e = .returned (.int .i64 ((k + m.st.length + m.out.length : Nat) : Int)) ∧ Below w.heap.size w w' := by
  obtain ⟨pc, sp, fp, st, out, stt, val⟩ := m
  unfold mcA mcRow
  dsimp only at r1 r2 hk l2 ⊢
  obtain ⟨sn, hsn⟩ : ∃ x, st.length = x := ⟨_, rfl⟩
  obtain ⟨on, hon⟩ : ∃ x, out.length = x := ⟨_, rfl⟩
  rw [hsn] at r1 r2 hk ⊢
  rw [hon] at r2 l2 ⊢
  have TB := Lib.hid ((Below.refl w.heap.size w).alloc (Nat.le_refl _) (.cells #[.int .i64 pc, .int .i64 sp, .int .i64 fp, .slice a0 sn c0, .slice a1 on c1, .int .i64 stt, .int .i64 val] 27))
  have C1 := Lib.hid (l_heldInts a0 c0 sn k _ (r1.below TB.out) (by omega) (by omega))
  have C2 := Lib.hid (l_heldInts a1 c1 on (k + sn) _ (r2.below TB.out) l2 hk)
  clear r1 r2 hsn hon
  go_enter Try.func17, Try.ntmps17
  go_wp2_with fail
  refine C1.out.mono ?_
  rintro e w1 ⟨rfl, rfl⟩
  have hd : decide ((k : Int) + (sn : Int) < 0) = false := by simp; omega
  go_wp2_with fail
  refine C2.out.mono ?_
  rintro e w1 ⟨rfl, rfl⟩
  have hd2 : decide ((k : Int) + (sn : Int) + (on : Int) < 0) = false := by simp; omega
  go_wp2
  go_ret
  exact ⟨rfl, TB.out⟩
end Go.Proofs.Ytljmkkodhnkemaa
