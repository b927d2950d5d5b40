/- The model's l11Perform: instructions 0, 3, 15; The model's l11Perform: instructions 1; The model's l11Perform: instructions 2; The model's l11Perform: instructions 4, 10. -/
import Derived.Test.YtakgjlpgcepnkaaGreatI04
/-! The model's l11Perform: instructions 0, 3, 15 -/
namespace Go.Proofs.YtakgjlpgcepnkaaGreat
open Go.RowKit Go.Lib

set_option maxRecDepth 100000 in
set_option maxHeartbeats 4000000 in
theorem s_perf0 (a0 a1 a2 : Option Addr) (c0 c1 c2 : Nat) (E : List Int) (B cb : Nat) (w : World) (sv ov : Value) (s : McS) (h : MsAt B cb w sv ov s) (hE : ∀ W, Below B w W → ReadI W a2 E) (hB1 : B ≤ cb) (hO : s.1.out.length ≤ 4000000) (n : Nat) (hpc : 0 ≤ s.1.pc + (n : Int) ∧ s.1.pc + (n : Int) ≤ 3000000) (hsp : 0 ≤ s.1.sp ∧ s.1.sp ≤ 1200) (s1 : McS) (hs1 : s1 = ({ s.1 with pc := s.1.pc + (n : Int) }, s.2)) (a : Int) (r : McS) (hr : r = pushS s1 a) :
    Calls Tryz.prog 41 #[.agg #[.slice a0 2 c0, .slice a1 2 c1, .slice a2 E.length c2], .pointer (some ⟨cb, 0, none⟩), .agg #[.int .i64 0, .int .i64 a], .int .i64 (n : Int)] w (MsP B cb sv ov r w) := by
  have hcb := h.lt
  have HR := Lib.hid hr
  clear hr
  obtain ⟨m, f⟩ := s
  dsimp only at hO hpc hsp hs1
  obtain ⟨pc, hpcv⟩ : ∃ x, m.pc = x := ⟨_, rfl⟩
  obtain ⟨sp, hspv⟩ : ∃ x, m.sp = x := ⟨_, rfl⟩
  rw [hpcv] at hpc
  rw [hspv] at hsp
  obtain ⟨q, hq⟩ : ∃ x, pc + (n : Int) = x := ⟨_, rfl⟩
  have up : IntKind.i64.wrap (pc + (n : Int)) = q := (IntWalk.i64_in _ (by omega)).trans hq
  rw [hq] at hpc
  have HP0 := h.setPc q
  have hz0 : (w.setCell ⟨cb, 0, none⟩ (.int .i64 q)).heap.size = w.heap.size := by simp [World.setCell]
  have T2 := Lib.hid (two_new (w.setCell ⟨cb, 0, none⟩ (.int .i64 q)) (.cells #[.slice a0 2 c0, .slice a1 2 c1, .slice a2 E.length c2] 34) (.cells #[.int .i64 0, .int .i64 a] 75))
  have HP := HP0.1.below T2.out.2.2.2
  obtain ⟨W1, hW1⟩ : ∃ W, ((w.setCell ⟨cb, 0, none⟩ (.int .i64 q)).alloc (.cells #[.slice a0 2 c0, .slice a1 2 c1, .slice a2 E.length c2] 34)).alloc (.cells #[.int .i64 0, .int .i64 a] 75) = W := ⟨_, rfl⟩
  have HW1 := Lib.hid hW1
  rw [hW1] at HP T2
  obtain ⟨m0, m1, m2, m3, m4, _, _, m7, gm⟩ := h.cells
  have hlt := h.lt
  have BX : Hid (Bs B cb sv ov w a0 a1 a2 c0 c1 c2 E.length 0 a ({ m with pc := q }, f) W1) := Lib.hid (Bs.of HP (HP0.2.trans (Step.of_below T2.out.2.2.2)) (by have h := T2.out.1; rw [hz0] at h; exact h) (by have h := T2.out.2.1; rw [hz0] at h; exact h))
  rw [hpcv, hq] at hs1
  replace hs1 := hs1.symm
  have hf1 : s1.1.fp = m.fp := by rw [← hs1]
  have hp1 : s1.1.sp = sp := by rw [← hs1]; exact hspv
  have hq1 : s1.1.pc = q := by rw [← hs1]
  have ho1 : s1.1.out = m.out := by rw [← hs1]
  have HF1 := Lib.hid (And.intro hf1 (And.intro hp1 (And.intro hq1 ho1)))
  rw [hs1] at BX
  have RE : Hid (∀ W, Step cb [sv, ov] [sv, ov] w W → ReadI W a2 E) := Lib.hid (fun W hS => hE W (hS.base (by omega) hB1 (fun v hv g hg => by
    simp only [List.mem_cons, List.not_mem_nil, or_false] at hv
    rcases hv with rfl | rfl
    · exact (h.st.lt g hg).1
    · exact (h.out.lt g hg).1)))
  dsimp only at m0 m1
  rw [hpcv] at m0
  rw [hspv] at m1
  clear h hE hW1 HP HP0 hz0 T2 hs1 hf1 hp1 hq1 ho1 hpcv hspv hq m2 m3 m4 m7
  go_enter Tryz.func41, Tryz.ntmps41
  go_upto_region 3 with fail
  rw [HW1.out]
  have b0 := BX.out.b0
  clear m0 m1 gm hlt up HW1
  have b1 := BX.out.b1
  go_wp2_with fail
  refine (s_push BX.out.ms a).mono ?_
  rintro e w1 ⟨rfl, HC1, HS1⟩
  have B1 := Lib.hid (BX.out.next hcb HC1.out HS1.out)
  clear HC1 HS1
  go_wp2
  go_end0
  exact MsP.eq (MsP.of rfl B1.out) (HR.out)
set_option maxRecDepth 100000 in
set_option maxHeartbeats 4000000 in
theorem s_perf3 (a0 a1 a2 : Option Addr) (c0 c1 c2 : Nat) (E : List Int) (B cb : Nat) (w : World) (sv ov : Value) (s : McS) (h : MsAt B cb w sv ov s) (hE : ∀ W, Below B w W → ReadI W a2 E) (hB1 : B ≤ cb) (hO : s.1.out.length ≤ 4000000) (n : Nat) (hpc : 0 ≤ s.1.pc + (n : Int) ∧ s.1.pc + (n : Int) ≤ 3000000) (hsp : 0 ≤ s.1.sp ∧ s.1.sp ≤ 1200) (s1 : McS) (hs1 : s1 = ({ s.1 with pc := s.1.pc + (n : Int) }, s.2)) (a : Int) (ha : -40000 ≤ a ∧ a ≤ 40000) (r : McS) (hr : r = pushS (wordS s1 (s1.1.sp + a)).2 (wordS s1 (s1.1.sp + a)).1) :
    Calls Tryz.prog 41 #[.agg #[.slice a0 2 c0, .slice a1 2 c1, .slice a2 E.length c2], .pointer (some ⟨cb, 0, none⟩), .agg #[.int .i64 3, .int .i64 a], .int .i64 (n : Int)] w (MsP B cb sv ov r w) := by
  have hcb := h.lt
  have HR := Lib.hid hr
  clear hr
  obtain ⟨m, f⟩ := s
  dsimp only at hO hpc hsp hs1
  obtain ⟨pc, hpcv⟩ : ∃ x, m.pc = x := ⟨_, rfl⟩
  obtain ⟨sp, hspv⟩ : ∃ x, m.sp = x := ⟨_, rfl⟩
  rw [hpcv] at hpc
  rw [hspv] at hsp
  obtain ⟨q, hq⟩ : ∃ x, pc + (n : Int) = x := ⟨_, rfl⟩
  have up : IntKind.i64.wrap (pc + (n : Int)) = q := (IntWalk.i64_in _ (by omega)).trans hq
  rw [hq] at hpc
  have HP0 := h.setPc q
  have hz0 : (w.setCell ⟨cb, 0, none⟩ (.int .i64 q)).heap.size = w.heap.size := by simp [World.setCell]
  have T2 := Lib.hid (two_new (w.setCell ⟨cb, 0, none⟩ (.int .i64 q)) (.cells #[.slice a0 2 c0, .slice a1 2 c1, .slice a2 E.length c2] 34) (.cells #[.int .i64 3, .int .i64 a] 75))
  have HP := HP0.1.below T2.out.2.2.2
  obtain ⟨W1, hW1⟩ : ∃ W, ((w.setCell ⟨cb, 0, none⟩ (.int .i64 q)).alloc (.cells #[.slice a0 2 c0, .slice a1 2 c1, .slice a2 E.length c2] 34)).alloc (.cells #[.int .i64 3, .int .i64 a] 75) = W := ⟨_, rfl⟩
  have HW1 := Lib.hid hW1
  rw [hW1] at HP T2
  obtain ⟨m0, m1, m2, m3, m4, _, _, m7, gm⟩ := h.cells
  have hlt := h.lt
  have BX : Hid (Bs B cb sv ov w a0 a1 a2 c0 c1 c2 E.length 3 a ({ m with pc := q }, f) W1) := Lib.hid (Bs.of HP (HP0.2.trans (Step.of_below T2.out.2.2.2)) (by have h := T2.out.1; rw [hz0] at h; exact h) (by have h := T2.out.2.1; rw [hz0] at h; exact h))
  rw [hpcv, hq] at hs1
  replace hs1 := hs1.symm
  have hf1 : s1.1.fp = m.fp := by rw [← hs1]
  have hp1 : s1.1.sp = sp := by rw [← hs1]; exact hspv
  have hq1 : s1.1.pc = q := by rw [← hs1]
  have ho1 : s1.1.out = m.out := by rw [← hs1]
  have HF1 := Lib.hid (And.intro hf1 (And.intro hp1 (And.intro hq1 ho1)))
  rw [hs1] at BX
  have RE : Hid (∀ W, Step cb [sv, ov] [sv, ov] w W → ReadI W a2 E) := Lib.hid (fun W hS => hE W (hS.base (by omega) hB1 (fun v hv g hg => by
    simp only [List.mem_cons, List.not_mem_nil, or_false] at hv
    rcases hv with rfl | rfl
    · exact (h.st.lt g hg).1
    · exact (h.out.lt g hg).1)))
  dsimp only at m0 m1
  rw [hpcv] at m0
  rw [hspv] at m1
  clear h hE hW1 HP HP0 hz0 T2 hs1 hf1 hp1 hq1 ho1 hpcv hspv hq m2 m3 m4 m7
  go_enter Tryz.func41, Tryz.ntmps41
  go_upto_region 3 with fail
  rw [HW1.out]
  have b0 := BX.out.b0
  clear m0 m1 gm hlt up HW1
  have us : IntKind.i64.wrap (sp + a) = sp + a := IntWalk.i64_in _ (by omega)
  have b1 := BX.out.b1
  go_wp2_with fail
  refine (s_word BX.out.ms (sp + a)).mono ?_
  rintro e w1 ⟨rfl, HC1, HS1⟩
  have B1 := Lib.hid (BX.out.next hcb HC1.out HS1.out)
  clear HC1 HS1
  go_wp2_with fail
  refine (s_push B1.out.ms (wordS s1 (sp + a)).1).mono ?_
  rintro e w2 ⟨rfl, HC2, HS2⟩
  have B2 := Lib.hid (B1.out.next hcb HC2.out HS2.out)
  clear HC2 HS2
  go_wp2
  go_end0
  exact MsP.eq (MsP.of rfl B2.out) (by rw [HR.out, HF1.out.2.1])
set_option maxRecDepth 100000 in
set_option maxHeartbeats 4000000 in
theorem s_perf15 (a0 a1 a2 : Option Addr) (c0 c1 c2 : Nat) (E : List Int) (B cb : Nat) (w : World) (sv ov : Value) (s : McS) (h : MsAt B cb w sv ov s) (hE : ∀ W, Below B w W → ReadI W a2 E) (hB1 : B ≤ cb) (hO : s.1.out.length ≤ 4000000) (n : Nat) (hpc : 0 ≤ s.1.pc + (n : Int) ∧ s.1.pc + (n : Int) ≤ 3000000) (hsp : 0 ≤ s.1.sp ∧ s.1.sp ≤ 1200) (s1 : McS) (hs1 : s1 = ({ s.1 with pc := s.1.pc + (n : Int) }, s.2)) (a : Int) (ha : 0 ≤ a ∧ a ≤ 70000) (r : McS) (hr : r = zerosS a.toNat s1) :
    Calls Tryz.prog 41 #[.agg #[.slice a0 2 c0, .slice a1 2 c1, .slice a2 E.length c2], .pointer (some ⟨cb, 0, none⟩), .agg #[.int .i64 15, .int .i64 a], .int .i64 (n : Int)] w (MsP B cb sv ov r w) := by
  have hcb := h.lt
  have HR := Lib.hid hr
  clear hr
  obtain ⟨m, f⟩ := s
  dsimp only at hO hpc hsp hs1
  obtain ⟨pc, hpcv⟩ : ∃ x, m.pc = x := ⟨_, rfl⟩
  obtain ⟨sp, hspv⟩ : ∃ x, m.sp = x := ⟨_, rfl⟩
  rw [hpcv] at hpc
  rw [hspv] at hsp
  obtain ⟨q, hq⟩ : ∃ x, pc + (n : Int) = x := ⟨_, rfl⟩
  have up : IntKind.i64.wrap (pc + (n : Int)) = q := (IntWalk.i64_in _ (by omega)).trans hq
  rw [hq] at hpc
  have HP0 := h.setPc q
  have hz0 : (w.setCell ⟨cb, 0, none⟩ (.int .i64 q)).heap.size = w.heap.size := by simp [World.setCell]
  have T2 := Lib.hid (two_new (w.setCell ⟨cb, 0, none⟩ (.int .i64 q)) (.cells #[.slice a0 2 c0, .slice a1 2 c1, .slice a2 E.length c2] 34) (.cells #[.int .i64 15, .int .i64 a] 75))
  have HP := HP0.1.below T2.out.2.2.2
  obtain ⟨W1, hW1⟩ : ∃ W, ((w.setCell ⟨cb, 0, none⟩ (.int .i64 q)).alloc (.cells #[.slice a0 2 c0, .slice a1 2 c1, .slice a2 E.length c2] 34)).alloc (.cells #[.int .i64 15, .int .i64 a] 75) = W := ⟨_, rfl⟩
  have HW1 := Lib.hid hW1
  rw [hW1] at HP T2
  obtain ⟨m0, m1, m2, m3, m4, _, _, m7, gm⟩ := h.cells
  have hlt := h.lt
  have BX : Hid (Bs B cb sv ov w a0 a1 a2 c0 c1 c2 E.length 15 a ({ m with pc := q }, f) W1) := Lib.hid (Bs.of HP (HP0.2.trans (Step.of_below T2.out.2.2.2)) (by have h := T2.out.1; rw [hz0] at h; exact h) (by have h := T2.out.2.1; rw [hz0] at h; exact h))
  rw [hpcv, hq] at hs1
  replace hs1 := hs1.symm
  have hf1 : s1.1.fp = m.fp := by rw [← hs1]
  have hp1 : s1.1.sp = sp := by rw [← hs1]; exact hspv
  have hq1 : s1.1.pc = q := by rw [← hs1]
  have ho1 : s1.1.out = m.out := by rw [← hs1]
  have HF1 := Lib.hid (And.intro hf1 (And.intro hp1 (And.intro hq1 ho1)))
  rw [hs1] at BX
  have RE : Hid (∀ W, Step cb [sv, ov] [sv, ov] w W → ReadI W a2 E) := Lib.hid (fun W hS => hE W (hS.base (by omega) hB1 (fun v hv g hg => by
    simp only [List.mem_cons, List.not_mem_nil, or_false] at hv
    rcases hv with rfl | rfl
    · exact (h.st.lt g hg).1
    · exact (h.out.lt g hg).1)))
  dsimp only at m0 m1
  rw [hpcv] at m0
  rw [hspv] at m1
  clear h hE hW1 HP HP0 hz0 T2 hs1 hf1 hp1 hq1 ho1 hpcv hspv hq m2 m3 m4 m7
  go_enter Tryz.func41, Tryz.ntmps41
  go_upto_region 3 with fail
  rw [HW1.out]
  have b0 := BX.out.b0
  clear m0 m1 gm hlt up HW1
  obtain ⟨k, rfl⟩ : ∃ k : Nat, a = (k : Int) := ⟨a.toNat, (Int.toNat_of_nonneg ha.1).symm⟩
  have b1 := BX.out.b1
  go_wp2_with fail
  refine (s_zeros BX.out.ms k (by omega)).mono ?_
  rintro e w1 ⟨rfl, HC1, HS1⟩
  have B1 := Lib.hid (BX.out.next hcb HC1.out HS1.out)
  clear HC1 HS1
  go_wp2
  go_end0
  exact MsP.eq (MsP.of rfl B1.out) (by rw [HR.out, Int.toNat_natCast])
end Go.Proofs.YtakgjlpgcepnkaaGreat

/-! The model's l11Perform: instructions 1 -/
namespace Go.Proofs.YtakgjlpgcepnkaaGreat
open Go.RowKit Go.Lib

set_option maxRecDepth 100000 in
set_option maxHeartbeats 4000000 in
theorem s_perf1 (a0 a1 a2 : Option Addr) (c0 c1 c2 : Nat) (E : List Int) (B cb : Nat) (w : World) (sv ov : Value) (s : McS) (h : MsAt B cb w sv ov s) (hE : ∀ W, Below B w W → ReadI W a2 E) (hB1 : B ≤ cb) (hO : s.1.out.length ≤ 4000000) (n : Nat) (hpc : 0 ≤ s.1.pc + (n : Int) ∧ s.1.pc + (n : Int) ≤ 3000000) (hsp : 0 ≤ s.1.sp ∧ s.1.sp ≤ 1200) (s1 : McS) (hs1 : s1 = ({ s.1 with pc := s.1.pc + (n : Int) }, s.2)) (a : Int) (ha : -40000 ≤ a ∧ a ≤ 40000) (r : McS) (hr : r = pushS (wordS s1 (nearZ s1.1.fp a)).2 (wordS s1 (nearZ s1.1.fp a)).1) :
    Calls Tryz.prog 41 #[.agg #[.slice a0 2 c0, .slice a1 2 c1, .slice a2 E.length c2], .pointer (some ⟨cb, 0, none⟩), .agg #[.int .i64 1, .int .i64 a], .int .i64 (n : Int)] w (MsP B cb sv ov r w) := by
  have hcb := h.lt
  have HR := Lib.hid hr
  clear hr
  obtain ⟨m, f⟩ := s
  dsimp only at hO hpc hsp hs1
  obtain ⟨pc, hpcv⟩ : ∃ x, m.pc = x := ⟨_, rfl⟩
  obtain ⟨sp, hspv⟩ : ∃ x, m.sp = x := ⟨_, rfl⟩
  rw [hpcv] at hpc
  rw [hspv] at hsp
  obtain ⟨q, hq⟩ : ∃ x, pc + (n : Int) = x := ⟨_, rfl⟩
  have up : IntKind.i64.wrap (pc + (n : Int)) = q := (IntWalk.i64_in _ (by omega)).trans hq
  rw [hq] at hpc
  have HP0 := h.setPc q
  have hz0 : (w.setCell ⟨cb, 0, none⟩ (.int .i64 q)).heap.size = w.heap.size := by simp [World.setCell]
  have T2 := Lib.hid (two_new (w.setCell ⟨cb, 0, none⟩ (.int .i64 q)) (.cells #[.slice a0 2 c0, .slice a1 2 c1, .slice a2 E.length c2] 34) (.cells #[.int .i64 1, .int .i64 a] 75))
  have HP := HP0.1.below T2.out.2.2.2
  obtain ⟨W1, hW1⟩ : ∃ W, ((w.setCell ⟨cb, 0, none⟩ (.int .i64 q)).alloc (.cells #[.slice a0 2 c0, .slice a1 2 c1, .slice a2 E.length c2] 34)).alloc (.cells #[.int .i64 1, .int .i64 a] 75) = W := ⟨_, rfl⟩
  have HW1 := Lib.hid hW1
  rw [hW1] at HP T2
  obtain ⟨m0, m1, m2, m3, m4, _, _, m7, gm⟩ := h.cells
  have hlt := h.lt
  have BX : Hid (Bs B cb sv ov w a0 a1 a2 c0 c1 c2 E.length 1 a ({ m with pc := q }, f) W1) := Lib.hid (Bs.of HP (HP0.2.trans (Step.of_below T2.out.2.2.2)) (by have h := T2.out.1; rw [hz0] at h; exact h) (by have h := T2.out.2.1; rw [hz0] at h; exact h))
  rw [hpcv, hq] at hs1
  replace hs1 := hs1.symm
  have hf1 : s1.1.fp = m.fp := by rw [← hs1]
  have hp1 : s1.1.sp = sp := by rw [← hs1]; exact hspv
  have hq1 : s1.1.pc = q := by rw [← hs1]
  have ho1 : s1.1.out = m.out := by rw [← hs1]
  have HF1 := Lib.hid (And.intro hf1 (And.intro hp1 (And.intro hq1 ho1)))
  rw [hs1] at BX
  have RE : Hid (∀ W, Step cb [sv, ov] [sv, ov] w W → ReadI W a2 E) := Lib.hid (fun W hS => hE W (hS.base (by omega) hB1 (fun v hv g hg => by
    simp only [List.mem_cons, List.not_mem_nil, or_false] at hv
    rcases hv with rfl | rfl
    · exact (h.st.lt g hg).1
    · exact (h.out.lt g hg).1)))
  dsimp only at m0 m1
  rw [hpcv] at m0
  rw [hspv] at m1
  clear h hE hW1 HP HP0 hz0 T2 hs1 hf1 hp1 hq1 ho1 hpcv hspv hq m2 m3 m4 m7
  go_enter Tryz.func41, Tryz.ntmps41
  go_upto_region 3 with fail
  rw [HW1.out]
  have b0 := BX.out.b0
  clear m0 m1 gm hlt up HW1
  obtain ⟨fp, hfp⟩ : ∃ x, s1.1.fp = x := ⟨_, rfl⟩
  have K0 : Hid (W1.cell? ⟨cb, 2, none⟩ = some (.int .i64 fp) ∧ W1.cell? ⟨w.heap.size + 1, 1, none⟩ = some (.int .i64 a)) := Lib.hid ⟨by rw [← hfp]; exact BX.out.ms.cells.2.2.1, BX.out.b1⟩
  have KB := Lib.hid (BX.out.drew hcb)
  have HFP := Lib.hid hfp
  clear hfp
  go_upto_region 10 with fail
  refine E_start (S := (fun w' => w'.cell? ⟨cb, 2, none⟩ = some (.int .i64 fp) ∧ w'.cell? ⟨w.heap.size + 1, 1, none⟩ = some (.int .i64 a))) 11 (by kernel_rfl) (K0.out) (fun hHeld => ?_)
  refine E_take (i := 0) (oi := _) (v := ?_) rfl (by kernel_rfl) (fun _ _ _ h => h) ?_ (by assumption) ?_
  rotate_left 1
  · (refine Or.inl ⟨by rfl, ?_⟩; intro w hSw; (try dsimp only at hSw); (try simp only [List.getElem_toArray, List.getElem_cons_zero, List.getElem_cons_succ]); go_simp; (first | done | with_reducible rfl))
  try simp only [Act.put, List.setIfInBounds_toArray, List.set_cons_zero, List.set_cons_succ, List.getElem_toArray, List.getElem_cons_zero, List.getElem_cons_succ]
  refine E_take (i := 1) (oi := _) (v := ?_) rfl (by kernel_rfl) (fun _ _ _ h => h) ?_ (by assumption) ?_
  rotate_left 1
  · (refine Or.inl ⟨by rfl, ?_⟩; intro w hSw; (try dsimp only at hSw); (try simp only [List.getElem_toArray, List.getElem_cons_zero, List.getElem_cons_succ]); go_simp; (first | done | with_reducible rfl))
  try simp only [Act.put, List.setIfInBounds_toArray, List.set_cons_zero, List.set_cons_succ, List.getElem_toArray, List.getElem_cons_zero, List.getElem_cons_succ]
  refine E_take (i := 2) (oi := _) (v := ?_) rfl (by kernel_rfl) (fun _ _ _ h => h) ?_ (by assumption) ?_
  rotate_left 1
  · (refine Or.inl ⟨by rfl, ?_⟩; intro w hSw; (try dsimp only at hSw); (try simp only [List.getElem_toArray, List.getElem_cons_zero, List.getElem_cons_succ]); go_simp; (first | done | with_reducible rfl))
  try simp only [Act.put, List.setIfInBounds_toArray, List.set_cons_zero, List.set_cons_succ, List.getElem_toArray, List.getElem_cons_zero, List.getElem_cons_succ]
  refine E_take (i := 3) (oi := _) (v := ?_) rfl (by kernel_rfl) (fun _ _ _ h => h) ?_ (by assumption) ?_
  rotate_left 1
  · (refine Or.inl ⟨by rfl, ?_⟩; intro w hSw; (try dsimp only at hSw); (try simp only [List.getElem_toArray, List.getElem_cons_zero, List.getElem_cons_succ]); go_simp; (first | done | with_reducible rfl))
  try simp only [Act.put, List.setIfInBounds_toArray, List.set_cons_zero, List.set_cons_succ, List.getElem_toArray, List.getElem_cons_zero, List.getElem_cons_succ]
  refine E_take (i := 4) (oi := _) (v := ?_) rfl (by kernel_rfl) (fun _ _ _ h => h) ?_ (by assumption) ?_
  rotate_left 1
  · (refine Or.inl ⟨by rfl, ?_⟩; intro w hSw; (try dsimp only at hSw); (try simp only [List.getElem_toArray, List.getElem_cons_zero, List.getElem_cons_succ]); go_simp; (first | done | with_reducible rfl))
  try simp only [Act.put, List.setIfInBounds_toArray, List.set_cons_zero, List.set_cons_succ, List.getElem_toArray, List.getElem_cons_zero, List.getElem_cons_succ]
  refine E_take (i := 5) (oi := _) (v := ?_) rfl (by kernel_rfl) (fun _ _ _ h => h) ?_ (by assumption) ?_
  rotate_left 1
  · (refine Or.inl ⟨by rfl, ?_⟩; intro w hSw; (try dsimp only at hSw); (try simp only [List.getElem_toArray, List.getElem_cons_zero, List.getElem_cons_succ]); go_simp; (first | done | with_reducible rfl))
  try simp only [Act.put, List.setIfInBounds_toArray, List.set_cons_zero, List.set_cons_succ, List.getElem_toArray, List.getElem_cons_zero, List.getElem_cons_succ]
  refine E_take (i := 6) (oi := _) (v := ?_) rfl (by kernel_rfl) (fun _ _ _ h => h) ?_ (by assumption) ?_
  rotate_left 1
  · (refine Or.inl ⟨by rfl, ?_⟩; intro w hSw; (try dsimp only at hSw); (try simp only [List.getElem_toArray, List.getElem_cons_zero, List.getElem_cons_succ]); go_simp; (first | done | with_reducible rfl))
  try simp only [Act.put, List.setIfInBounds_toArray, List.set_cons_zero, List.set_cons_succ, List.getElem_toArray, List.getElem_cons_zero, List.getElem_cons_succ]
  refine E_take (i := 7) (oi := _) (v := ?_) rfl (by kernel_rfl) (fun _ _ _ h => h) ?_ (by assumption) ?_
  rotate_left 1
  · (refine Or.inl ⟨by rfl, ?_⟩; intro w hSw; (try dsimp only at hSw); (try simp only [List.getElem_toArray, List.getElem_cons_zero, List.getElem_cons_succ]); go_simp; (first | done | with_reducible rfl))
  try simp only [Act.put, List.setIfInBounds_toArray, List.set_cons_zero, List.set_cons_succ, List.getElem_toArray, List.getElem_cons_zero, List.getElem_cons_succ]
  refine E_take (i := 8) (oi := _) (v := ?_) rfl (by kernel_rfl) (fun _ _ _ h => h) ?_ (by assumption) ?_
  rotate_left 1
  · (refine Or.inl ⟨by rfl, ?_⟩; intro w hSw; (try dsimp only at hSw); (try simp only [List.getElem_toArray, List.getElem_cons_zero, List.getElem_cons_succ]); go_simp; (first | done | with_reducible rfl))
  try simp only [Act.put, List.setIfInBounds_toArray, List.set_cons_zero, List.set_cons_succ, List.getElem_toArray, List.getElem_cons_zero, List.getElem_cons_succ]
  refine E_ready (rs := [9]) (by kernel_rfl) (by decide) ?_
  refine AllE.cons (o := _) rfl (fun K hK => ?_) AllE.nil
  try simp only [List.getElem_toArray, List.getElem_cons_zero, List.getElem_cons_succ]
  go_simp
  refine (s_near fp a (by omega) W1.drew).mono ?_
  rintro e wn ⟨rfl, rfl⟩
  go_wp2_with fail
  refine hK.out _ _ (K0.out) (fun hHeld => ?_)
  clear hK K
  try simp only [Act.put, List.setIfInBounds_toArray, List.set_cons_zero, List.set_cons_succ, List.getElem_toArray, List.getElem_cons_zero, List.getElem_cons_succ]
  refine E_ready (rs := [10]) (by kernel_rfl) (by decide) ?_
  refine AllE.cons (o := _) rfl (fun K hK => ?_) AllE.nil
  try simp only [List.getElem_toArray, List.getElem_cons_zero, List.getElem_cons_succ]
  go_simp
  refine (s_word KB.out.ms (nearZ fp a)).mono ?_
  rintro e w1 ⟨rfl, HC1, HS1⟩
  go_wp2_with fail
  have B1 := Lib.hid (KB.out.next hcb HC1.out HS1.out)
  have K1 : Hid (w1.cell? ⟨cb, 2, none⟩ = some (.int .i64 fp) ∧ w1.cell? ⟨w.heap.size + 1, 1, none⟩ = some (.int .i64 a)) := Lib.hid ⟨by rw [← HFP.out]; have h := B1.out.ms.cells.2.2.1; rw [wordS_m] at h; exact h, B1.out.b1⟩
  refine hK.out _ _ (K1.out) (fun hHeld => ?_)
  clear hK K
  try simp only [Act.put, List.setIfInBounds_toArray, List.set_cons_zero, List.set_cons_succ, List.getElem_toArray, List.getElem_cons_zero, List.getElem_cons_succ]
  refine E_last (o := _) (by kernel_rfl) rfl (by kernel_rfl) (fun K hK => ?_)
  try simp only [List.getElem_toArray, List.getElem_cons_zero, List.getElem_cons_succ]
  go_simp
  refine (s_push B1.out.ms (wordS s1 (nearZ fp a)).1).mono ?_
  rintro e w2 ⟨rfl, HC2, HS2⟩
  go_wp2_with fail
  have B2 := Lib.hid (B1.out.next hcb HC2.out HS2.out)
  refine hK.out _ _ ?_
  clear hK K
  go_wp2
  go_end0
  exact MsP.eq (MsP.of rfl B2.out) (by rw [HR.out, HFP.out])
end Go.Proofs.YtakgjlpgcepnkaaGreat

/-! The model's l11Perform: instructions 2 -/
namespace Go.Proofs.YtakgjlpgcepnkaaGreat
open Go.RowKit Go.Lib

set_option maxRecDepth 100000 in
set_option maxHeartbeats 4000000 in
theorem s_perf2 (a0 a1 a2 : Option Addr) (c0 c1 c2 : Nat) (E : List Int) (B cb : Nat) (w : World) (sv ov : Value) (s : McS) (h : MsAt B cb w sv ov s) (hE : ∀ W, Below B w W → ReadI W a2 E) (hB1 : B ≤ cb) (hO : s.1.out.length ≤ 4000000) (n : Nat) (hpc : 0 ≤ s.1.pc + (n : Int) ∧ s.1.pc + (n : Int) ≤ 3000000) (hsp : 0 ≤ s.1.sp ∧ s.1.sp ≤ 1200) (s1 : McS) (hs1 : s1 = ({ s.1 with pc := s.1.pc + (n : Int) }, s.2)) (a : Int) (ha : -40000 ≤ a ∧ a ≤ 40000) (r : McS) (hr : r = putS (popS s1).2 (nearZ s1.1.fp a) (popS s1).1) :
    Calls Tryz.prog 41 #[.agg #[.slice a0 2 c0, .slice a1 2 c1, .slice a2 E.length c2], .pointer (some ⟨cb, 0, none⟩), .agg #[.int .i64 2, .int .i64 a], .int .i64 (n : Int)] w (MsP B cb sv ov r w) := by
  have hcb := h.lt
  have HR := Lib.hid hr
  clear hr
  obtain ⟨m, f⟩ := s
  dsimp only at hO hpc hsp hs1
  obtain ⟨pc, hpcv⟩ : ∃ x, m.pc = x := ⟨_, rfl⟩
  obtain ⟨sp, hspv⟩ : ∃ x, m.sp = x := ⟨_, rfl⟩
  rw [hpcv] at hpc
  rw [hspv] at hsp
  obtain ⟨q, hq⟩ : ∃ x, pc + (n : Int) = x := ⟨_, rfl⟩
  have up : IntKind.i64.wrap (pc + (n : Int)) = q := (IntWalk.i64_in _ (by omega)).trans hq
  rw [hq] at hpc
  have HP0 := h.setPc q
  have hz0 : (w.setCell ⟨cb, 0, none⟩ (.int .i64 q)).heap.size = w.heap.size := by simp [World.setCell]
  have T2 := Lib.hid (two_new (w.setCell ⟨cb, 0, none⟩ (.int .i64 q)) (.cells #[.slice a0 2 c0, .slice a1 2 c1, .slice a2 E.length c2] 34) (.cells #[.int .i64 2, .int .i64 a] 75))
  have HP := HP0.1.below T2.out.2.2.2
  obtain ⟨W1, hW1⟩ : ∃ W, ((w.setCell ⟨cb, 0, none⟩ (.int .i64 q)).alloc (.cells #[.slice a0 2 c0, .slice a1 2 c1, .slice a2 E.length c2] 34)).alloc (.cells #[.int .i64 2, .int .i64 a] 75) = W := ⟨_, rfl⟩
  have HW1 := Lib.hid hW1
  rw [hW1] at HP T2
  obtain ⟨m0, m1, m2, m3, m4, _, _, m7, gm⟩ := h.cells
  have hlt := h.lt
  have BX : Hid (Bs B cb sv ov w a0 a1 a2 c0 c1 c2 E.length 2 a ({ m with pc := q }, f) W1) := Lib.hid (Bs.of HP (HP0.2.trans (Step.of_below T2.out.2.2.2)) (by have h := T2.out.1; rw [hz0] at h; exact h) (by have h := T2.out.2.1; rw [hz0] at h; exact h))
  rw [hpcv, hq] at hs1
  replace hs1 := hs1.symm
  have hf1 : s1.1.fp = m.fp := by rw [← hs1]
  have hp1 : s1.1.sp = sp := by rw [← hs1]; exact hspv
  have hq1 : s1.1.pc = q := by rw [← hs1]
  have ho1 : s1.1.out = m.out := by rw [← hs1]
  have HF1 := Lib.hid (And.intro hf1 (And.intro hp1 (And.intro hq1 ho1)))
  rw [hs1] at BX
  have RE : Hid (∀ W, Step cb [sv, ov] [sv, ov] w W → ReadI W a2 E) := Lib.hid (fun W hS => hE W (hS.base (by omega) hB1 (fun v hv g hg => by
    simp only [List.mem_cons, List.not_mem_nil, or_false] at hv
    rcases hv with rfl | rfl
    · exact (h.st.lt g hg).1
    · exact (h.out.lt g hg).1)))
  dsimp only at m0 m1
  rw [hpcv] at m0
  rw [hspv] at m1
  clear h hE hW1 HP HP0 hz0 T2 hs1 hf1 hp1 hq1 ho1 hpcv hspv hq m2 m3 m4 m7
  go_enter Tryz.func41, Tryz.ntmps41
  go_upto_region 3 with fail
  rw [HW1.out]
  have b0 := BX.out.b0
  clear m0 m1 gm hlt up HW1
  obtain ⟨fp, hfp⟩ : ∃ x, s1.1.fp = x := ⟨_, rfl⟩
  have K0 : Hid (W1.cell? ⟨cb, 2, none⟩ = some (.int .i64 fp) ∧ W1.cell? ⟨w.heap.size + 1, 1, none⟩ = some (.int .i64 a)) := Lib.hid ⟨by rw [← hfp]; exact BX.out.ms.cells.2.2.1, BX.out.b1⟩
  have KB := Lib.hid (BX.out.drew hcb)
  have HFP := Lib.hid hfp
  clear hfp
  go_upto_region 14 with fail
  refine E_start (S := (fun w' => w'.cell? ⟨cb, 2, none⟩ = some (.int .i64 fp) ∧ w'.cell? ⟨w.heap.size + 1, 1, none⟩ = some (.int .i64 a))) 11 (by kernel_rfl) (K0.out) (fun hHeld => ?_)
  refine E_take (i := 0) (oi := _) (v := ?_) rfl (by kernel_rfl) (fun _ _ _ h => h) ?_ (by assumption) ?_
  rotate_left 1
  · (refine Or.inl ⟨by rfl, ?_⟩; intro w hSw; (try dsimp only at hSw); (try simp only [List.getElem_toArray, List.getElem_cons_zero, List.getElem_cons_succ]); go_simp; (first | done | with_reducible rfl))
  try simp only [Act.put, List.setIfInBounds_toArray, List.set_cons_zero, List.set_cons_succ, List.getElem_toArray, List.getElem_cons_zero, List.getElem_cons_succ]
  refine E_take (i := 1) (oi := _) (v := ?_) rfl (by kernel_rfl) (fun _ _ _ h => h) ?_ (by assumption) ?_
  rotate_left 1
  · (refine Or.inl ⟨by rfl, ?_⟩; intro w hSw; (try dsimp only at hSw); (try simp only [List.getElem_toArray, List.getElem_cons_zero, List.getElem_cons_succ]); go_simp; (first | done | with_reducible rfl))
  try simp only [Act.put, List.setIfInBounds_toArray, List.set_cons_zero, List.set_cons_succ, List.getElem_toArray, List.getElem_cons_zero, List.getElem_cons_succ]
  refine E_take (i := 2) (oi := _) (v := ?_) rfl (by kernel_rfl) (fun _ _ _ h => h) ?_ (by assumption) ?_
  rotate_left 1
  · (refine Or.inl ⟨by rfl, ?_⟩; intro w hSw; (try dsimp only at hSw); (try simp only [List.getElem_toArray, List.getElem_cons_zero, List.getElem_cons_succ]); go_simp; (first | done | with_reducible rfl))
  try simp only [Act.put, List.setIfInBounds_toArray, List.set_cons_zero, List.set_cons_succ, List.getElem_toArray, List.getElem_cons_zero, List.getElem_cons_succ]
  refine E_take (i := 3) (oi := _) (v := ?_) rfl (by kernel_rfl) (fun _ _ _ h => h) ?_ (by assumption) ?_
  rotate_left 1
  · (refine Or.inl ⟨by rfl, ?_⟩; intro w hSw; (try dsimp only at hSw); (try simp only [List.getElem_toArray, List.getElem_cons_zero, List.getElem_cons_succ]); go_simp; (first | done | with_reducible rfl))
  try simp only [Act.put, List.setIfInBounds_toArray, List.set_cons_zero, List.set_cons_succ, List.getElem_toArray, List.getElem_cons_zero, List.getElem_cons_succ]
  refine E_take (i := 4) (oi := _) (v := ?_) rfl (by kernel_rfl) (fun _ _ _ h => h) ?_ (by assumption) ?_
  rotate_left 1
  · (refine Or.inl ⟨by rfl, ?_⟩; intro w hSw; (try dsimp only at hSw); (try simp only [List.getElem_toArray, List.getElem_cons_zero, List.getElem_cons_succ]); go_simp; (first | done | with_reducible rfl))
  try simp only [Act.put, List.setIfInBounds_toArray, List.set_cons_zero, List.set_cons_succ, List.getElem_toArray, List.getElem_cons_zero, List.getElem_cons_succ]
  refine E_take (i := 5) (oi := _) (v := ?_) rfl (by kernel_rfl) (fun _ _ _ h => h) ?_ (by assumption) ?_
  rotate_left 1
  · (refine Or.inl ⟨by rfl, ?_⟩; intro w hSw; (try dsimp only at hSw); (try simp only [List.getElem_toArray, List.getElem_cons_zero, List.getElem_cons_succ]); go_simp; (first | done | with_reducible rfl))
  try simp only [Act.put, List.setIfInBounds_toArray, List.set_cons_zero, List.set_cons_succ, List.getElem_toArray, List.getElem_cons_zero, List.getElem_cons_succ]
  refine E_take (i := 6) (oi := _) (v := ?_) rfl (by kernel_rfl) (fun _ _ _ h => h) ?_ (by assumption) ?_
  rotate_left 1
  · (refine Or.inl ⟨by rfl, ?_⟩; intro w hSw; (try dsimp only at hSw); (try simp only [List.getElem_toArray, List.getElem_cons_zero, List.getElem_cons_succ]); go_simp; (first | done | with_reducible rfl))
  try simp only [Act.put, List.setIfInBounds_toArray, List.set_cons_zero, List.set_cons_succ, List.getElem_toArray, List.getElem_cons_zero, List.getElem_cons_succ]
  refine E_take (i := 7) (oi := _) (v := ?_) rfl (by kernel_rfl) (fun _ _ _ h => h) ?_ (by assumption) ?_
  rotate_left 1
  · (refine Or.inl ⟨by rfl, ?_⟩; intro w hSw; (try dsimp only at hSw); (try simp only [List.getElem_toArray, List.getElem_cons_zero, List.getElem_cons_succ]); go_simp; (first | done | with_reducible rfl))
  try simp only [Act.put, List.setIfInBounds_toArray, List.set_cons_zero, List.set_cons_succ, List.getElem_toArray, List.getElem_cons_zero, List.getElem_cons_succ]
  refine E_take (i := 9) (oi := _) (v := ?_) rfl (by kernel_rfl) (fun _ _ _ h => h) ?_ (by assumption) ?_
  rotate_left 1
  · (refine Or.inl ⟨by rfl, ?_⟩; intro w hSw; (try dsimp only at hSw); (try simp only [List.getElem_toArray, List.getElem_cons_zero, List.getElem_cons_succ]); go_simp; (first | done | with_reducible rfl))
  try simp only [Act.put, List.setIfInBounds_toArray, List.set_cons_zero, List.set_cons_succ, List.getElem_toArray, List.getElem_cons_zero, List.getElem_cons_succ]
  refine E_ready (rs := [8]) (by kernel_rfl) (by decide) ?_
  refine AllE.cons (o := _) rfl (fun K hK => ?_) AllE.nil
  try simp only [List.getElem_toArray, List.getElem_cons_zero, List.getElem_cons_succ]
  go_simp
  refine (s_near fp a (by omega) W1.drew).mono ?_
  rintro e wn ⟨rfl, rfl⟩
  go_wp2_with fail
  refine hK.out _ _ (K0.out) (fun hHeld => ?_)
  clear hK K
  try simp only [Act.put, List.setIfInBounds_toArray, List.set_cons_zero, List.set_cons_succ, List.getElem_toArray, List.getElem_cons_zero, List.getElem_cons_succ]
  refine E_ready (rs := [10]) (by kernel_rfl) (by decide) ?_
  refine AllE.cons (o := _) rfl (fun K hK => ?_) AllE.nil
  try simp only [List.getElem_toArray, List.getElem_cons_zero, List.getElem_cons_succ]
  go_simp
  refine (s_pop KB.out.ms).mono ?_
  rintro e w1 ⟨rfl, HC1, HS1⟩
  go_wp2_with fail
  have B1 := Lib.hid (KB.out.next hcb HC1.out HS1.out)
  have K1 : Hid (w1.cell? ⟨cb, 2, none⟩ = some (.int .i64 fp) ∧ w1.cell? ⟨w.heap.size + 1, 1, none⟩ = some (.int .i64 a)) := Lib.hid ⟨by rw [← HFP.out]; have h := B1.out.ms.cells.2.2.1; rw [(popS_m s1).2.1] at h; exact h, B1.out.b1⟩
  refine hK.out _ _ (K1.out) (fun hHeld => ?_)
  clear hK K
  try simp only [Act.put, List.setIfInBounds_toArray, List.set_cons_zero, List.set_cons_succ, List.getElem_toArray, List.getElem_cons_zero, List.getElem_cons_succ]
  refine E_last (o := _) (by kernel_rfl) rfl (by kernel_rfl) (fun K hK => ?_)
  try simp only [List.getElem_toArray, List.getElem_cons_zero, List.getElem_cons_succ]
  go_simp
  refine (s_put B1.out.ms (nearZ fp a) (popS s1).1).mono ?_
  rintro e w2 ⟨rfl, HC2, HS2⟩
  go_wp2_with fail
  have B2 := Lib.hid (B1.out.next hcb HC2.out HS2.out)
  refine hK.out _ _ ?_
  clear hK K
  go_wp2
  go_end0
  exact MsP.eq (MsP.of rfl B2.out) (by rw [HR.out, HFP.out])
end Go.Proofs.YtakgjlpgcepnkaaGreat

/-! The model's l11Perform: instructions 4, 10 -/
namespace Go.Proofs.YtakgjlpgcepnkaaGreat
open Go.RowKit Go.Lib

set_option maxRecDepth 100000 in
set_option maxHeartbeats 4000000 in
theorem s_perf4 (a0 a1 a2 : Option Addr) (c0 c1 c2 : Nat) (E : List Int) (B cb : Nat) (w : World) (sv ov : Value) (s : McS) (h : MsAt B cb w sv ov s) (hE : ∀ W, Below B w W → ReadI W a2 E) (hB1 : B ≤ cb) (hO : s.1.out.length ≤ 4000000) (n : Nat) (hpc : 0 ≤ s.1.pc + (n : Int) ∧ s.1.pc + (n : Int) ≤ 3000000) (hsp : 0 ≤ s.1.sp ∧ s.1.sp ≤ 1200) (s1 : McS) (hs1 : s1 = ({ s.1 with pc := s.1.pc + (n : Int) }, s.2)) (a : Int) (ha : -40000 ≤ a ∧ a ≤ 40000) (r : McS) (hr : r = putS (popS s1).2 (s1.1.sp + a) (popS s1).1) :
    Calls Tryz.prog 41 #[.agg #[.slice a0 2 c0, .slice a1 2 c1, .slice a2 E.length c2], .pointer (some ⟨cb, 0, none⟩), .agg #[.int .i64 4, .int .i64 a], .int .i64 (n : Int)] w (MsP B cb sv ov r w) := by
  have hcb := h.lt
  have HR := Lib.hid hr
  clear hr
  obtain ⟨m, f⟩ := s
  dsimp only at hO hpc hsp hs1
  obtain ⟨pc, hpcv⟩ : ∃ x, m.pc = x := ⟨_, rfl⟩
  obtain ⟨sp, hspv⟩ : ∃ x, m.sp = x := ⟨_, rfl⟩
  rw [hpcv] at hpc
  rw [hspv] at hsp
  obtain ⟨q, hq⟩ : ∃ x, pc + (n : Int) = x := ⟨_, rfl⟩
  have up : IntKind.i64.wrap (pc + (n : Int)) = q := (IntWalk.i64_in _ (by omega)).trans hq
  rw [hq] at hpc
  have HP0 := h.setPc q
  have hz0 : (w.setCell ⟨cb, 0, none⟩ (.int .i64 q)).heap.size = w.heap.size := by simp [World.setCell]
  have T2 := Lib.hid (two_new (w.setCell ⟨cb, 0, none⟩ (.int .i64 q)) (.cells #[.slice a0 2 c0, .slice a1 2 c1, .slice a2 E.length c2] 34) (.cells #[.int .i64 4, .int .i64 a] 75))
  have HP := HP0.1.below T2.out.2.2.2
  obtain ⟨W1, hW1⟩ : ∃ W, ((w.setCell ⟨cb, 0, none⟩ (.int .i64 q)).alloc (.cells #[.slice a0 2 c0, .slice a1 2 c1, .slice a2 E.length c2] 34)).alloc (.cells #[.int .i64 4, .int .i64 a] 75) = W := ⟨_, rfl⟩
  have HW1 := Lib.hid hW1
  rw [hW1] at HP T2
  obtain ⟨m0, m1, m2, m3, m4, _, _, m7, gm⟩ := h.cells
  have hlt := h.lt
  have BX : Hid (Bs B cb sv ov w a0 a1 a2 c0 c1 c2 E.length 4 a ({ m with pc := q }, f) W1) := Lib.hid (Bs.of HP (HP0.2.trans (Step.of_below T2.out.2.2.2)) (by have h := T2.out.1; rw [hz0] at h; exact h) (by have h := T2.out.2.1; rw [hz0] at h; exact h))
  rw [hpcv, hq] at hs1
  replace hs1 := hs1.symm
  have hf1 : s1.1.fp = m.fp := by rw [← hs1]
  have hp1 : s1.1.sp = sp := by rw [← hs1]; exact hspv
  have hq1 : s1.1.pc = q := by rw [← hs1]
  have ho1 : s1.1.out = m.out := by rw [← hs1]
  have HF1 := Lib.hid (And.intro hf1 (And.intro hp1 (And.intro hq1 ho1)))
  rw [hs1] at BX
  have RE : Hid (∀ W, Step cb [sv, ov] [sv, ov] w W → ReadI W a2 E) := Lib.hid (fun W hS => hE W (hS.base (by omega) hB1 (fun v hv g hg => by
    simp only [List.mem_cons, List.not_mem_nil, or_false] at hv
    rcases hv with rfl | rfl
    · exact (h.st.lt g hg).1
    · exact (h.out.lt g hg).1)))
  dsimp only at m0 m1
  rw [hpcv] at m0
  rw [hspv] at m1
  clear h hE hW1 HP HP0 hz0 T2 hs1 hf1 hp1 hq1 ho1 hpcv hspv hq m2 m3 m4 m7
  go_enter Tryz.func41, Tryz.ntmps41
  go_upto_region 3 with fail
  rw [HW1.out]
  have b0 := BX.out.b0
  clear m0 m1 gm hlt up HW1
  have us : IntKind.i64.wrap (sp + a) = sp + a := IntWalk.i64_in _ (by omega)
  have K0 := Lib.hid BX.out.b1
  have KB := Lib.hid (BX.out.drew hcb)
  go_upto_region 16 with fail
  refine E_start (S := (fun w' => w'.cell? ⟨w.heap.size + 1, 1, none⟩ = some (.int .i64 a))) 7 (by kernel_rfl) (K0.out) (fun hHeld => ?_)
  refine E_take (i := 0) (oi := _) (v := ?_) rfl (by kernel_rfl) (fun _ _ _ h => h) ?_ (by assumption) ?_
  rotate_left 1
  · (refine Or.inl ⟨by rfl, ?_⟩; intro w hSw; (try dsimp only at hSw); (try simp only [List.getElem_toArray, List.getElem_cons_zero, List.getElem_cons_succ]); go_simp; (first | done | with_reducible rfl))
  try simp only [Act.put, List.setIfInBounds_toArray, List.set_cons_zero, List.set_cons_succ, List.getElem_toArray, List.getElem_cons_zero, List.getElem_cons_succ]
  refine E_take (i := 1) (oi := _) (v := ?_) rfl (by kernel_rfl) (fun _ _ _ h => h) ?_ (by assumption) ?_
  rotate_left 1
  · (refine Or.inl ⟨by rfl, ?_⟩; intro w hSw; (try dsimp only at hSw); (try simp only [List.getElem_toArray, List.getElem_cons_zero, List.getElem_cons_succ]); go_simp; (first | done | with_reducible rfl))
  try simp only [Act.put, List.setIfInBounds_toArray, List.set_cons_zero, List.set_cons_succ, List.getElem_toArray, List.getElem_cons_zero, List.getElem_cons_succ]
  refine E_take (i := 2) (oi := _) (v := ?_) rfl (by kernel_rfl) (fun _ _ _ h => h) ?_ (by assumption) ?_
  rotate_left 1
  · (refine Or.inl ⟨by rfl, ?_⟩; intro w hSw; (try dsimp only at hSw); (try simp only [List.getElem_toArray, List.getElem_cons_zero, List.getElem_cons_succ]); go_simp; (first | done | with_reducible rfl))
  try simp only [Act.put, List.setIfInBounds_toArray, List.set_cons_zero, List.set_cons_succ, List.getElem_toArray, List.getElem_cons_zero, List.getElem_cons_succ]
  refine E_take (i := 3) (oi := _) (v := ?_) rfl (by kernel_rfl) (fun _ _ _ h => h) ?_ (by assumption) ?_
  rotate_left 1
  · (refine Or.inl ⟨by rfl, ?_⟩; intro w hSw; (try dsimp only at hSw); (try simp only [List.getElem_toArray, List.getElem_cons_zero, List.getElem_cons_succ]); go_simp; (first | done | with_reducible rfl))
  try simp only [Act.put, List.setIfInBounds_toArray, List.set_cons_zero, List.set_cons_succ, List.getElem_toArray, List.getElem_cons_zero, List.getElem_cons_succ]
  refine E_take (i := 4) (oi := _) (v := ?_) rfl (by kernel_rfl) (fun _ _ _ h => h) ?_ (by assumption) ?_
  rotate_left 1
  · (refine Or.inl ⟨by rfl, ?_⟩; intro w hSw; (try dsimp only at hSw); (try simp only [List.getElem_toArray, List.getElem_cons_zero, List.getElem_cons_succ]); go_simp; (first | done | with_reducible rfl))
  try simp only [Act.put, List.setIfInBounds_toArray, List.set_cons_zero, List.set_cons_succ, List.getElem_toArray, List.getElem_cons_zero, List.getElem_cons_succ]
  refine E_take (i := 5) (oi := _) (v := ?_) rfl (by kernel_rfl) (fun _ _ _ h => h) ?_ (by assumption) ?_
  rotate_left 1
  · (refine Or.inl ⟨by rfl, ?_⟩; intro w hSw; (try dsimp only at hSw); (try simp only [List.getElem_toArray, List.getElem_cons_zero, List.getElem_cons_succ]); go_simp; (first | done | with_reducible rfl))
  try simp only [Act.put, List.setIfInBounds_toArray, List.set_cons_zero, List.set_cons_succ, List.getElem_toArray, List.getElem_cons_zero, List.getElem_cons_succ]
  refine E_ready (rs := [6]) (by kernel_rfl) (by decide) ?_
  refine AllE.cons (o := _) rfl (fun K hK => ?_) AllE.nil
  try simp only [List.getElem_toArray, List.getElem_cons_zero, List.getElem_cons_succ]
  go_simp
  refine (s_pop KB.out.ms).mono ?_
  rintro e w1 ⟨rfl, HC1, HS1⟩
  go_wp2_with fail
  have B1 := Lib.hid (KB.out.next hcb HC1.out HS1.out)
  have K1 := Lib.hid B1.out.b1
  refine hK.out _ _ (K1.out) (fun hHeld => ?_)
  clear hK K
  try simp only [Act.put, List.setIfInBounds_toArray, List.set_cons_zero, List.set_cons_succ, List.getElem_toArray, List.getElem_cons_zero, List.getElem_cons_succ]
  refine E_last (o := _) (by kernel_rfl) rfl (by kernel_rfl) (fun K hK => ?_)
  try simp only [List.getElem_toArray, List.getElem_cons_zero, List.getElem_cons_succ]
  go_simp
  refine (s_put B1.out.ms (sp + a) (popS s1).1).mono ?_
  rintro e w2 ⟨rfl, HC2, HS2⟩
  go_wp2_with fail
  have B2 := Lib.hid (B1.out.next hcb HC2.out HS2.out)
  refine hK.out _ _ ?_
  clear hK K
  go_wp2
  go_end0
  exact MsP.eq (MsP.of rfl B2.out) (by rw [HR.out, HF1.out.2.1])
set_option maxRecDepth 100000 in
set_option maxHeartbeats 4000000 in
theorem s_perf10 (a0 a1 a2 : Option Addr) (c0 c1 c2 : Nat) (E : List Int) (B cb : Nat) (w : World) (sv ov : Value) (s : McS) (h : MsAt B cb w sv ov s) (hE : ∀ W, Below B w W → ReadI W a2 E) (hB1 : B ≤ cb) (hO : s.1.out.length ≤ 4000000) (n : Nat) (hpc : 0 ≤ s.1.pc + (n : Int) ∧ s.1.pc + (n : Int) ≤ 3000000) (hsp : 0 ≤ s.1.sp ∧ s.1.sp ≤ 1200) (s1 : McS) (hs1 : s1 = ({ s.1 with pc := s.1.pc + (n : Int) }, s.2)) (a : Int) (ha : -70000 ≤ a ∧ a ≤ 70000) (r : McS) (hr : r = ({ s1.1 with pc := s1.1.pc + a }, s1.2)) :
    Calls Tryz.prog 41 #[.agg #[.slice a0 2 c0, .slice a1 2 c1, .slice a2 E.length c2], .pointer (some ⟨cb, 0, none⟩), .agg #[.int .i64 10, .int .i64 a], .int .i64 (n : Int)] w (MsP B cb sv ov r w) := by
  have hcb := h.lt
  have HR := Lib.hid hr
  clear hr
  obtain ⟨m, f⟩ := s
  dsimp only at hO hpc hsp hs1
  obtain ⟨pc, hpcv⟩ : ∃ x, m.pc = x := ⟨_, rfl⟩
  obtain ⟨sp, hspv⟩ : ∃ x, m.sp = x := ⟨_, rfl⟩
  rw [hpcv] at hpc
  rw [hspv] at hsp
  obtain ⟨q, hq⟩ : ∃ x, pc + (n : Int) = x := ⟨_, rfl⟩
  have up : IntKind.i64.wrap (pc + (n : Int)) = q := (IntWalk.i64_in _ (by omega)).trans hq
  rw [hq] at hpc
  have HP0 := h.setPc q
  have hz0 : (w.setCell ⟨cb, 0, none⟩ (.int .i64 q)).heap.size = w.heap.size := by simp [World.setCell]
  have T2 := Lib.hid (two_new (w.setCell ⟨cb, 0, none⟩ (.int .i64 q)) (.cells #[.slice a0 2 c0, .slice a1 2 c1, .slice a2 E.length c2] 34) (.cells #[.int .i64 10, .int .i64 a] 75))
  have HP := HP0.1.below T2.out.2.2.2
  obtain ⟨W1, hW1⟩ : ∃ W, ((w.setCell ⟨cb, 0, none⟩ (.int .i64 q)).alloc (.cells #[.slice a0 2 c0, .slice a1 2 c1, .slice a2 E.length c2] 34)).alloc (.cells #[.int .i64 10, .int .i64 a] 75) = W := ⟨_, rfl⟩
  have HW1 := Lib.hid hW1
  rw [hW1] at HP T2
  obtain ⟨m0, m1, m2, m3, m4, _, _, m7, gm⟩ := h.cells
  have hlt := h.lt
  have BX : Hid (Bs B cb sv ov w a0 a1 a2 c0 c1 c2 E.length 10 a ({ m with pc := q }, f) W1) := Lib.hid (Bs.of HP (HP0.2.trans (Step.of_below T2.out.2.2.2)) (by have h := T2.out.1; rw [hz0] at h; exact h) (by have h := T2.out.2.1; rw [hz0] at h; exact h))
  rw [hpcv, hq] at hs1
  replace hs1 := hs1.symm
  have hf1 : s1.1.fp = m.fp := by rw [← hs1]
  have hp1 : s1.1.sp = sp := by rw [← hs1]; exact hspv
  have hq1 : s1.1.pc = q := by rw [← hs1]
  have ho1 : s1.1.out = m.out := by rw [← hs1]
  have HF1 := Lib.hid (And.intro hf1 (And.intro hp1 (And.intro hq1 ho1)))
  rw [hs1] at BX
  have RE : Hid (∀ W, Step cb [sv, ov] [sv, ov] w W → ReadI W a2 E) := Lib.hid (fun W hS => hE W (hS.base (by omega) hB1 (fun v hv g hg => by
    simp only [List.mem_cons, List.not_mem_nil, or_false] at hv
    rcases hv with rfl | rfl
    · exact (h.st.lt g hg).1
    · exact (h.out.lt g hg).1)))
  dsimp only at m0 m1
  rw [hpcv] at m0
  rw [hspv] at m1
  clear h hE hW1 HP HP0 hz0 T2 hs1 hf1 hp1 hq1 ho1 hpcv hspv hq m2 m3 m4 m7
  go_enter Tryz.func41, Tryz.ntmps41
  go_upto_region 3 with fail
  rw [HW1.out]
  have b0 := BX.out.b0
  clear m0 m1 gm hlt up HW1
  have hq2 : IntKind.i64.wrap (q + a) = q + a := IntWalk.i64_in _ (by omega)
  have KBX : Hid (W1.cell? ⟨cb, 0, none⟩ = some (.int .i64 q) ∧ W1.cell? ⟨w.heap.size + 1, 1, none⟩ = some (.int .i64 a)) := Lib.hid ⟨by have h := BX.out.ms.cells.1; rw [HF1.out.2.2.1] at h; exact h, BX.out.b1⟩
  obtain ⟨m0', _, _, _, _, _, _, _, gm'⟩ := BX.out.ms.cells
  have hlt' := BX.out.ms.lt
  have HPJ := Lib.hid (BX.out.ms.setPc (q + a))
  have BJ := Lib.hid (BX.out.next hcb HPJ.out.1 HPJ.out.2)
  have BK := Lib.hid (BJ.out.drew hcb)
  rw [HF1.out.2.2.1] at m0'
  go_upto_region 18 with fail
  refine E_start (S := (fun w' => w'.cell? ⟨cb, 0, none⟩ = some (.int .i64 q) ∧ w'.cell? ⟨w.heap.size + 1, 1, none⟩ = some (.int .i64 a))) 12 (by kernel_rfl) (KBX.out) (fun hHeld => ?_)
  refine E_take (i := 0) (oi := _) (v := ?_) rfl (by kernel_rfl) (fun _ _ _ h => h) ?_ (by assumption) ?_
  rotate_left 1
  · (refine Or.inl ⟨by rfl, ?_⟩; intro w hSw; (try dsimp only at hSw); (try simp only [List.getElem_toArray, List.getElem_cons_zero, List.getElem_cons_succ]); go_simp; (first | done | with_reducible rfl))
  try simp only [Act.put, List.setIfInBounds_toArray, List.set_cons_zero, List.set_cons_succ, List.getElem_toArray, List.getElem_cons_zero, List.getElem_cons_succ]
  refine E_take (i := 1) (oi := _) (v := ?_) rfl (by kernel_rfl) (fun _ _ _ h => h) ?_ (by assumption) ?_
  rotate_left 1
  · (refine Or.inl ⟨by rfl, ?_⟩; intro w hSw; (try dsimp only at hSw); (try simp only [List.getElem_toArray, List.getElem_cons_zero, List.getElem_cons_succ]); go_simp; (first | done | with_reducible rfl))
  try simp only [Act.put, List.setIfInBounds_toArray, List.set_cons_zero, List.set_cons_succ, List.getElem_toArray, List.getElem_cons_zero, List.getElem_cons_succ]
  refine E_take (i := 2) (oi := _) (v := ?_) rfl (by kernel_rfl) (fun _ _ _ h => h) ?_ (by assumption) ?_
  rotate_left 1
  · (refine Or.inl ⟨by rfl, ?_⟩; intro w hSw; (try dsimp only at hSw); (try simp only [List.getElem_toArray, List.getElem_cons_zero, List.getElem_cons_succ]); go_simp; (first | done | with_reducible rfl))
  try simp only [Act.put, List.setIfInBounds_toArray, List.set_cons_zero, List.set_cons_succ, List.getElem_toArray, List.getElem_cons_zero, List.getElem_cons_succ]
  refine E_take (i := 3) (oi := _) (v := ?_) rfl (by kernel_rfl) (fun _ _ _ h => h) ?_ (by assumption) ?_
  rotate_left 1
  · (refine Or.inl ⟨by rfl, ?_⟩; intro w hSw; (try dsimp only at hSw); (try simp only [List.getElem_toArray, List.getElem_cons_zero, List.getElem_cons_succ]); go_simp; (first | done | with_reducible rfl))
  try simp only [Act.put, List.setIfInBounds_toArray, List.set_cons_zero, List.set_cons_succ, List.getElem_toArray, List.getElem_cons_zero, List.getElem_cons_succ]
  refine E_take (i := 4) (oi := _) (v := ?_) rfl (by kernel_rfl) (fun _ _ _ h => h) ?_ (by assumption) ?_
  rotate_left 1
  · (refine Or.inl ⟨by rfl, ?_⟩; intro w hSw; (try dsimp only at hSw); (try simp only [List.getElem_toArray, List.getElem_cons_zero, List.getElem_cons_succ]); go_simp; (first | done | with_reducible rfl))
  try simp only [Act.put, List.setIfInBounds_toArray, List.set_cons_zero, List.set_cons_succ, List.getElem_toArray, List.getElem_cons_zero, List.getElem_cons_succ]
  refine E_take (i := 5) (oi := _) (v := ?_) rfl (by kernel_rfl) (fun _ _ _ h => h) ?_ (by assumption) ?_
  rotate_left 1
  · (refine Or.inl ⟨by rfl, ?_⟩; intro w hSw; (try dsimp only at hSw); (try simp only [List.getElem_toArray, List.getElem_cons_zero, List.getElem_cons_succ]); go_simp; (first | done | with_reducible rfl))
  try simp only [Act.put, List.setIfInBounds_toArray, List.set_cons_zero, List.set_cons_succ, List.getElem_toArray, List.getElem_cons_zero, List.getElem_cons_succ]
  refine E_take (i := 6) (oi := _) (v := ?_) rfl (by kernel_rfl) (fun _ _ _ h => h) ?_ (by assumption) ?_
  rotate_left 1
  · (refine Or.inl ⟨by rfl, ?_⟩; intro w hSw; (try dsimp only at hSw); (try simp only [List.getElem_toArray, List.getElem_cons_zero, List.getElem_cons_succ]); go_simp; (first | done | with_reducible rfl))
  try simp only [Act.put, List.setIfInBounds_toArray, List.set_cons_zero, List.set_cons_succ, List.getElem_toArray, List.getElem_cons_zero, List.getElem_cons_succ]
  refine E_take (i := 7) (oi := _) (v := ?_) rfl (by kernel_rfl) (fun _ _ _ h => h) ?_ (by assumption) ?_
  rotate_left 1
  · (refine Or.inl ⟨by rfl, ?_⟩; intro w hSw; (try dsimp only at hSw); (try simp only [List.getElem_toArray, List.getElem_cons_zero, List.getElem_cons_succ]); go_simp; (first | done | with_reducible rfl))
  try simp only [Act.put, List.setIfInBounds_toArray, List.set_cons_zero, List.set_cons_succ, List.getElem_toArray, List.getElem_cons_zero, List.getElem_cons_succ]
  refine E_take (i := 8) (oi := _) (v := ?_) rfl (by kernel_rfl) (fun _ _ _ h => h) ?_ (by assumption) ?_
  rotate_left 1
  · (refine Or.inl ⟨by rfl, ?_⟩; intro w hSw; (try dsimp only at hSw); (try simp only [List.getElem_toArray, List.getElem_cons_zero, List.getElem_cons_succ]); go_simp; (first | done | with_reducible rfl))
  try simp only [Act.put, List.setIfInBounds_toArray, List.set_cons_zero, List.set_cons_succ, List.getElem_toArray, List.getElem_cons_zero, List.getElem_cons_succ]
  refine E_take (i := 9) (oi := _) (v := ?_) rfl (by kernel_rfl) (fun _ _ _ h => h) ?_ (by assumption) ?_
  rotate_left 1
  · (refine Or.inl ⟨by rfl, ?_⟩; intro w hSw; (try dsimp only at hSw); (try simp only [List.getElem_toArray, List.getElem_cons_zero, List.getElem_cons_succ]); go_simp; (first | done | with_reducible rfl))
  try simp only [Act.put, List.setIfInBounds_toArray, List.set_cons_zero, List.set_cons_succ, List.getElem_toArray, List.getElem_cons_zero, List.getElem_cons_succ]
  refine E_take (i := 10) (oi := _) (v := ?_) rfl (by kernel_rfl) (fun _ _ _ h => h) ?_ (by assumption) ?_
  rotate_left 1
  · (refine Or.inl ⟨by rfl, ?_⟩; intro w hSw; (try dsimp only at hSw); (try simp only [List.getElem_toArray, List.getElem_cons_zero, List.getElem_cons_succ]); go_simp; (first | done | with_reducible rfl))
  try simp only [Act.put, List.setIfInBounds_toArray, List.set_cons_zero, List.set_cons_succ, List.getElem_toArray, List.getElem_cons_zero, List.getElem_cons_succ]
  refine E_take (i := 11) (oi := _) (v := ?_) rfl (by kernel_rfl) (fun _ _ _ h => h) ?_ (by assumption) ?_
  rotate_left 1
  · (refine Or.inl ⟨by rfl, ?_⟩; intro w hSw; (try dsimp only at hSw); (try simp only [List.getElem_toArray, List.getElem_cons_zero, List.getElem_cons_succ]); go_simp; (first | done | with_reducible rfl))
  try simp only [Act.put, List.setIfInBounds_toArray, List.set_cons_zero, List.set_cons_succ, List.getElem_toArray, List.getElem_cons_zero, List.getElem_cons_succ]
  refine E_last (o := _) (by kernel_rfl) rfl (by kernel_rfl) (fun K hK => ?_)
  try simp only [List.getElem_toArray, List.getElem_cons_zero, List.getElem_cons_succ]
  go_simp
  refine hK.out _ _ ?_
  clear hK K
  go_wp2
  go_end0
  exact MsP.eq (MsP.of rfl BK.out) (by rw [HR.out, HF1.out.2.2.1])
end Go.Proofs.YtakgjlpgcepnkaaGreat
