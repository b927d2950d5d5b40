/- The model's l11Perform: instructions 11, 12; The model's l11Perform: instructions 13, 16; The model's l11Perform: instructions 14; The model's l11Perform: instructions 17, Op. -/
import Derived.Test.YtakgjlpgcepnkaaGreatI04
/-! The model's l11Perform: instructions 11, 12 -/
namespace Go.Proofs.YtakgjlpgcepnkaaGreat
open Go.RowKit Go.Lib

set_option maxRecDepth 100000 in
set_option maxHeartbeats 4000000 in
theorem s_perf11 (a0 a1 a2 : Option Addr) (c0 c1 c2 : Nat) (E : List Int) (B cb : Nat) (w : World) (sv ov : Value) (s : McS) (h : MsAt B cb w sv ov s) (hE : ∀ W, Below B w W → ReadI W a2 E) (hB1 : B ≤ cb) (hO : s.1.out.length ≤ 4000000) (n : Nat) (hpc : 0 ≤ s.1.pc + (n : Int) ∧ s.1.pc + (n : Int) ≤ 3000000) (hsp : 0 ≤ s.1.sp ∧ s.1.sp ≤ 1200) (s1 : McS) (hs1 : s1 = ({ s.1 with pc := s.1.pc + (n : Int) }, s.2)) (a : Int) (ha : -70000 ≤ a ∧ a ≤ 70000) (r : McS) (hr : r = if (popS s1).1 = 0 then ({ (popS s1).2.1 with pc := (popS s1).2.1.pc + a }, (popS s1).2.2) else (popS s1).2) :
    Calls Tryz.prog 41 #[.agg #[.slice a0 2 c0, .slice a1 2 c1, .slice a2 E.length c2], .pointer (some ⟨cb, 0, none⟩), .agg #[.int .i64 11, .int .i64 a], .int .i64 (n : Int)] w (MsP B cb sv ov r w) := by
  have hcb := h.lt
  have HR := Lib.hid hr
  clear hr
  obtain ⟨m, f⟩ := s
  dsimp only at hO hpc hsp hs1
  obtain ⟨pc, hpcv⟩ : ∃ x, m.pc = x := ⟨_, rfl⟩
  obtain ⟨sp, hspv⟩ : ∃ x, m.sp = x := ⟨_, rfl⟩
  rw [hpcv] at hpc
  rw [hspv] at hsp
  obtain ⟨q, hq⟩ : ∃ x, pc + (n : Int) = x := ⟨_, rfl⟩
  have up : IntKind.i64.wrap (pc + (n : Int)) = q := (IntWalk.i64_in _ (by omega)).trans hq
  rw [hq] at hpc
  have HP0 := h.setPc q
  have hz0 : (w.setCell ⟨cb, 0, none⟩ (.int .i64 q)).heap.size = w.heap.size := by simp [World.setCell]
  have T2 := Lib.hid (two_new (w.setCell ⟨cb, 0, none⟩ (.int .i64 q)) (.cells #[.slice a0 2 c0, .slice a1 2 c1, .slice a2 E.length c2] 34) (.cells #[.int .i64 11, .int .i64 a] 75))
  have HP := HP0.1.below T2.out.2.2.2
  obtain ⟨W1, hW1⟩ : ∃ W, ((w.setCell ⟨cb, 0, none⟩ (.int .i64 q)).alloc (.cells #[.slice a0 2 c0, .slice a1 2 c1, .slice a2 E.length c2] 34)).alloc (.cells #[.int .i64 11, .int .i64 a] 75) = W := ⟨_, rfl⟩
  have HW1 := Lib.hid hW1
  rw [hW1] at HP T2
  obtain ⟨m0, m1, m2, m3, m4, _, _, m7, gm⟩ := h.cells
  have hlt := h.lt
  have BX : Hid (Bs B cb sv ov w a0 a1 a2 c0 c1 c2 E.length 11 a ({ m with pc := q }, f) W1) := Lib.hid (Bs.of HP (HP0.2.trans (Step.of_below T2.out.2.2.2)) (by have h := T2.out.1; rw [hz0] at h; exact h) (by have h := T2.out.2.1; rw [hz0] at h; exact h))
  rw [hpcv, hq] at hs1
  replace hs1 := hs1.symm
  have hf1 : s1.1.fp = m.fp := by rw [← hs1]
  have hp1 : s1.1.sp = sp := by rw [← hs1]; exact hspv
  have hq1 : s1.1.pc = q := by rw [← hs1]
  have ho1 : s1.1.out = m.out := by rw [← hs1]
  have HF1 := Lib.hid (And.intro hf1 (And.intro hp1 (And.intro hq1 ho1)))
  rw [hs1] at BX
  have RE : Hid (∀ W, Step cb [sv, ov] [sv, ov] w W → ReadI W a2 E) := Lib.hid (fun W hS => hE W (hS.base (by omega) hB1 (fun v hv g hg => by
    simp only [List.mem_cons, List.not_mem_nil, or_false] at hv
    rcases hv with rfl | rfl
    · exact (h.st.lt g hg).1
    · exact (h.out.lt g hg).1)))
  dsimp only at m0 m1
  rw [hpcv] at m0
  rw [hspv] at m1
  clear h hE hW1 HP HP0 hz0 T2 hs1 hf1 hp1 hq1 ho1 hpcv hspv hq m2 m3 m4 m7
  go_enter Tryz.func41, Tryz.ntmps41
  go_upto_region 3 with fail
  rw [HW1.out]
  have b0 := BX.out.b0
  clear m0 m1 gm hlt up HW1
  have P := Lib.hid (s_pop BX.out.ms)
  have hpq : (popS s1).2.1.pc = q := by rw [(popS_m s1).1]; exact HF1.out.2.2.1
  have HPQ := Lib.hid hpq
  clear hpq
  by_cases hz : (popS s1).1 = 0
  · have HZ := Lib.hid hz
    rw [hz] at P
    clear hz
    go_wp2_with fail
    refine (P.out).mono ?_
    rintro e w1 ⟨rfl, HC1, HS1⟩
    have B1 := Lib.hid (BX.out.next hcb HC1.out HS1.out)
    clear HC1 HS1
    have hq2 : IntKind.i64.wrap (q + a) = q + a := IntWalk.i64_in _ (by omega)
    have KB1 : Hid (w1.cell? ⟨cb, 0, none⟩ = some (.int .i64 q) ∧ w1.cell? ⟨w.heap.size + 1, 1, none⟩ = some (.int .i64 a)) := Lib.hid ⟨by have h := B1.out.ms.cells.1; rw [HPQ.out] at h; exact h, B1.out.b1⟩
    obtain ⟨m0', _, _, _, _, _, _, _, gm'⟩ := B1.out.ms.cells
    have hlt' := B1.out.ms.lt
    have HPJ := Lib.hid (B1.out.ms.setPc (q + a))
    have BJ := Lib.hid (B1.out.next hcb HPJ.out.1 HPJ.out.2)
    have BK := Lib.hid (BJ.out.drew hcb)
    rw [HPQ.out] at m0'
    go_upto_region 21 with fail
    refine E_start (S := (fun w' => w'.cell? ⟨cb, 0, none⟩ = some (.int .i64 q) ∧ w'.cell? ⟨w.heap.size + 1, 1, none⟩ = some (.int .i64 a))) 12 (by kernel_rfl) (KB1.out) (fun hHeld => ?_)
    refine E_take (i := 0) (oi := _) (v := ?_) rfl (by kernel_rfl) (fun _ _ _ h => h) ?_ (by assumption) ?_
    rotate_left 1
    · (refine Or.inl ⟨by rfl, ?_⟩; intro w hSw; (try dsimp only at hSw); (try simp only [List.getElem_toArray, List.getElem_cons_zero, List.getElem_cons_succ]); go_simp; (first | done | with_reducible rfl))
    try simp only [Act.put, List.setIfInBounds_toArray, List.set_cons_zero, List.set_cons_succ, List.getElem_toArray, List.getElem_cons_zero, List.getElem_cons_succ]
    refine E_take (i := 1) (oi := _) (v := ?_) rfl (by kernel_rfl) (fun _ _ _ h => h) ?_ (by assumption) ?_
    rotate_left 1
    · (refine Or.inl ⟨by rfl, ?_⟩; intro w hSw; (try dsimp only at hSw); (try simp only [List.getElem_toArray, List.getElem_cons_zero, List.getElem_cons_succ]); go_simp; (first | done | with_reducible rfl))
    try simp only [Act.put, List.setIfInBounds_toArray, List.set_cons_zero, List.set_cons_succ, List.getElem_toArray, List.getElem_cons_zero, List.getElem_cons_succ]
    refine E_take (i := 2) (oi := _) (v := ?_) rfl (by kernel_rfl) (fun _ _ _ h => h) ?_ (by assumption) ?_
    rotate_left 1
    · (refine Or.inl ⟨by rfl, ?_⟩; intro w hSw; (try dsimp only at hSw); (try simp only [List.getElem_toArray, List.getElem_cons_zero, List.getElem_cons_succ]); go_simp; (first | done | with_reducible rfl))
    try simp only [Act.put, List.setIfInBounds_toArray, List.set_cons_zero, List.set_cons_succ, List.getElem_toArray, List.getElem_cons_zero, List.getElem_cons_succ]
    refine E_take (i := 3) (oi := _) (v := ?_) rfl (by kernel_rfl) (fun _ _ _ h => h) ?_ (by assumption) ?_
    rotate_left 1
    · (refine Or.inl ⟨by rfl, ?_⟩; intro w hSw; (try dsimp only at hSw); (try simp only [List.getElem_toArray, List.getElem_cons_zero, List.getElem_cons_succ]); go_simp; (first | done | with_reducible rfl))
    try simp only [Act.put, List.setIfInBounds_toArray, List.set_cons_zero, List.set_cons_succ, List.getElem_toArray, List.getElem_cons_zero, List.getElem_cons_succ]
    refine E_take (i := 4) (oi := _) (v := ?_) rfl (by kernel_rfl) (fun _ _ _ h => h) ?_ (by assumption) ?_
    rotate_left 1
    · (refine Or.inl ⟨by rfl, ?_⟩; intro w hSw; (try dsimp only at hSw); (try simp only [List.getElem_toArray, List.getElem_cons_zero, List.getElem_cons_succ]); go_simp; (first | done | with_reducible rfl))
    try simp only [Act.put, List.setIfInBounds_toArray, List.set_cons_zero, List.set_cons_succ, List.getElem_toArray, List.getElem_cons_zero, List.getElem_cons_succ]
    refine E_take (i := 5) (oi := _) (v := ?_) rfl (by kernel_rfl) (fun _ _ _ h => h) ?_ (by assumption) ?_
    rotate_left 1
    · (refine Or.inl ⟨by rfl, ?_⟩; intro w hSw; (try dsimp only at hSw); (try simp only [List.getElem_toArray, List.getElem_cons_zero, List.getElem_cons_succ]); go_simp; (first | done | with_reducible rfl))
    try simp only [Act.put, List.setIfInBounds_toArray, List.set_cons_zero, List.set_cons_succ, List.getElem_toArray, List.getElem_cons_zero, List.getElem_cons_succ]
    refine E_take (i := 6) (oi := _) (v := ?_) rfl (by kernel_rfl) (fun _ _ _ h => h) ?_ (by assumption) ?_
    rotate_left 1
    · (refine Or.inl ⟨by rfl, ?_⟩; intro w hSw; (try dsimp only at hSw); (try simp only [List.getElem_toArray, List.getElem_cons_zero, List.getElem_cons_succ]); go_simp; (first | done | with_reducible rfl))
    try simp only [Act.put, List.setIfInBounds_toArray, List.set_cons_zero, List.set_cons_succ, List.getElem_toArray, List.getElem_cons_zero, List.getElem_cons_succ]
    refine E_take (i := 7) (oi := _) (v := ?_) rfl (by kernel_rfl) (fun _ _ _ h => h) ?_ (by assumption) ?_
    rotate_left 1
    · (refine Or.inl ⟨by rfl, ?_⟩; intro w hSw; (try dsimp only at hSw); (try simp only [List.getElem_toArray, List.getElem_cons_zero, List.getElem_cons_succ]); go_simp; (first | done | with_reducible rfl))
    try simp only [Act.put, List.setIfInBounds_toArray, List.set_cons_zero, List.set_cons_succ, List.getElem_toArray, List.getElem_cons_zero, List.getElem_cons_succ]
    refine E_take (i := 8) (oi := _) (v := ?_) rfl (by kernel_rfl) (fun _ _ _ h => h) ?_ (by assumption) ?_
    rotate_left 1
    · (refine Or.inl ⟨by rfl, ?_⟩; intro w hSw; (try dsimp only at hSw); (try simp only [List.getElem_toArray, List.getElem_cons_zero, List.getElem_cons_succ]); go_simp; (first | done | with_reducible rfl))
    try simp only [Act.put, List.setIfInBounds_toArray, List.set_cons_zero, List.set_cons_succ, List.getElem_toArray, List.getElem_cons_zero, List.getElem_cons_succ]
    refine E_take (i := 9) (oi := _) (v := ?_) rfl (by kernel_rfl) (fun _ _ _ h => h) ?_ (by assumption) ?_
    rotate_left 1
    · (refine Or.inl ⟨by rfl, ?_⟩; intro w hSw; (try dsimp only at hSw); (try simp only [List.getElem_toArray, List.getElem_cons_zero, List.getElem_cons_succ]); go_simp; (first | done | with_reducible rfl))
    try simp only [Act.put, List.setIfInBounds_toArray, List.set_cons_zero, List.set_cons_succ, List.getElem_toArray, List.getElem_cons_zero, List.getElem_cons_succ]
    refine E_take (i := 10) (oi := _) (v := ?_) rfl (by kernel_rfl) (fun _ _ _ h => h) ?_ (by assumption) ?_
    rotate_left 1
    · (refine Or.inl ⟨by rfl, ?_⟩; intro w hSw; (try dsimp only at hSw); (try simp only [List.getElem_toArray, List.getElem_cons_zero, List.getElem_cons_succ]); go_simp; (first | done | with_reducible rfl))
    try simp only [Act.put, List.setIfInBounds_toArray, List.set_cons_zero, List.set_cons_succ, List.getElem_toArray, List.getElem_cons_zero, List.getElem_cons_succ]
    refine E_take (i := 11) (oi := _) (v := ?_) rfl (by kernel_rfl) (fun _ _ _ h => h) ?_ (by assumption) ?_
    rotate_left 1
    · (refine Or.inl ⟨by rfl, ?_⟩; intro w hSw; (try dsimp only at hSw); (try simp only [List.getElem_toArray, List.getElem_cons_zero, List.getElem_cons_succ]); go_simp; (first | done | with_reducible rfl))
    try simp only [Act.put, List.setIfInBounds_toArray, List.set_cons_zero, List.set_cons_succ, List.getElem_toArray, List.getElem_cons_zero, List.getElem_cons_succ]
    refine E_last (o := _) (by kernel_rfl) rfl (by kernel_rfl) (fun K hK => ?_)
    try simp only [List.getElem_toArray, List.getElem_cons_zero, List.getElem_cons_succ]
    go_simp
    refine hK.out _ _ ?_
    clear hK K
    go_wp2
    go_end0
    exact MsP.eq (MsP.of rfl BK.out) (by rw [HR.out, if_pos HZ.out, HPQ.out])
  · have HNZ := Lib.hid hz
    obtain ⟨p, hp⟩ : ∃ x, (popS s1).1 = x := ⟨_, rfl⟩
    rw [hp] at P hz
    have d0 : (p == 0) = false := by simpa using hz
    clear hz hp
    go_wp2_with fail
    refine (P.out).mono ?_
    rintro e w1 ⟨rfl, HC1, HS1⟩
    have B1 := Lib.hid (BX.out.next hcb HC1.out HS1.out)
    clear HC1 HS1
    go_wp2
    go_end0
    exact MsP.eq (MsP.of rfl B1.out) (by rw [HR.out, if_neg HNZ.out])
set_option maxRecDepth 100000 in
set_option maxHeartbeats 4000000 in
theorem s_perf12 (a0 a1 a2 : Option Addr) (c0 c1 c2 : Nat) (E : List Int) (B cb : Nat) (w : World) (sv ov : Value) (s : McS) (h : MsAt B cb w sv ov s) (hE : ∀ W, Below B w W → ReadI W a2 E) (hB1 : B ≤ cb) (hO : s.1.out.length ≤ 4000000) (n : Nat) (hpc : 0 ≤ s.1.pc + (n : Int) ∧ s.1.pc + (n : Int) ≤ 3000000) (hsp : 0 ≤ s.1.sp ∧ s.1.sp ≤ 1200) (s1 : McS) (hs1 : s1 = ({ s.1 with pc := s.1.pc + (n : Int) }, s.2)) (a : Int) (ha : 0 ≤ a ∧ a ≤ 70000) (r : McS) (hr : r = if (E.length : Int) ≤ a then (s1.1, true) else ({ (pushS s1 s1.1.pc).1 with pc := E.getD a.toNat 0 }, (pushS s1 s1.1.pc).2)) :
    Calls Tryz.prog 41 #[.agg #[.slice a0 2 c0, .slice a1 2 c1, .slice a2 E.length c2], .pointer (some ⟨cb, 0, none⟩), .agg #[.int .i64 12, .int .i64 a], .int .i64 (n : Int)] w (MsP B cb sv ov r w) := by
  have hcb := h.lt
  have HR := Lib.hid hr
  clear hr
  obtain ⟨m, f⟩ := s
  dsimp only at hO hpc hsp hs1
  obtain ⟨pc, hpcv⟩ : ∃ x, m.pc = x := ⟨_, rfl⟩
  obtain ⟨sp, hspv⟩ : ∃ x, m.sp = x := ⟨_, rfl⟩
  rw [hpcv] at hpc
  rw [hspv] at hsp
  obtain ⟨q, hq⟩ : ∃ x, pc + (n : Int) = x := ⟨_, rfl⟩
  have up : IntKind.i64.wrap (pc + (n : Int)) = q := (IntWalk.i64_in _ (by omega)).trans hq
  rw [hq] at hpc
  have HP0 := h.setPc q
  have hz0 : (w.setCell ⟨cb, 0, none⟩ (.int .i64 q)).heap.size = w.heap.size := by simp [World.setCell]
  have T2 := Lib.hid (two_new (w.setCell ⟨cb, 0, none⟩ (.int .i64 q)) (.cells #[.slice a0 2 c0, .slice a1 2 c1, .slice a2 E.length c2] 34) (.cells #[.int .i64 12, .int .i64 a] 75))
  have HP := HP0.1.below T2.out.2.2.2
  obtain ⟨W1, hW1⟩ : ∃ W, ((w.setCell ⟨cb, 0, none⟩ (.int .i64 q)).alloc (.cells #[.slice a0 2 c0, .slice a1 2 c1, .slice a2 E.length c2] 34)).alloc (.cells #[.int .i64 12, .int .i64 a] 75) = W := ⟨_, rfl⟩
  have HW1 := Lib.hid hW1
  rw [hW1] at HP T2
  obtain ⟨m0, m1, m2, m3, m4, _, _, m7, gm⟩ := h.cells
  have hlt := h.lt
  have BX : Hid (Bs B cb sv ov w a0 a1 a2 c0 c1 c2 E.length 12 a ({ m with pc := q }, f) W1) := Lib.hid (Bs.of HP (HP0.2.trans (Step.of_below T2.out.2.2.2)) (by have h := T2.out.1; rw [hz0] at h; exact h) (by have h := T2.out.2.1; rw [hz0] at h; exact h))
  rw [hpcv, hq] at hs1
  replace hs1 := hs1.symm
  have hf1 : s1.1.fp = m.fp := by rw [← hs1]
  have hp1 : s1.1.sp = sp := by rw [← hs1]; exact hspv
  have hq1 : s1.1.pc = q := by rw [← hs1]
  have ho1 : s1.1.out = m.out := by rw [← hs1]
  have HF1 := Lib.hid (And.intro hf1 (And.intro hp1 (And.intro hq1 ho1)))
  rw [hs1] at BX
  have RE : Hid (∀ W, Step cb [sv, ov] [sv, ov] w W → ReadI W a2 E) := Lib.hid (fun W hS => hE W (hS.base (by omega) hB1 (fun v hv g hg => by
    simp only [List.mem_cons, List.not_mem_nil, or_false] at hv
    rcases hv with rfl | rfl
    · exact (h.st.lt g hg).1
    · exact (h.out.lt g hg).1)))
  dsimp only at m0 m1
  rw [hpcv] at m0
  rw [hspv] at m1
  clear h hE hW1 HP HP0 hz0 T2 hs1 hf1 hp1 hq1 ho1 hpcv hspv hq m2 m3 m4 m7
  go_enter Tryz.func41, Tryz.ntmps41
  go_upto_region 3 with fail
  rw [HW1.out]
  have b0 := BX.out.b0
  clear m0 m1 gm hlt up HW1
  have s2 := BX.out.s2
  have b1 := BX.out.b1
  by_cases hc : (E.length : Int) ≤ a
  · have HC := Lib.hid hc
    have d0 : decide ((E.length : Int) ≤ a) = true := decide_eq_true hc
    have HF := Lib.hid (BX.out.ms.setB true)
    obtain ⟨_, _, _, _, _, _, _, e7, gm⟩ := BX.out.ms.cells
    have hlt := BX.out.ms.lt
    have BF := Lib.hid (BX.out.next hcb HF.out.1 HF.out.2)
    clear hc
    go_wp2_with fail
    go_end0
    exact MsP.eq (MsP.of rfl BF.out) (by rw [HR.out, if_pos HC.out])
  · have HC0 := Lib.hid hc
    have d0 : decide ((E.length : Int) ≤ a) = false := decide_eq_false hc
    obtain ⟨k, rfl⟩ : ∃ k : Nat, a = (k : Int) := ⟨a.toNat, (Int.toNat_of_nonneg ha.1).symm⟩
    have hn : k < E.length := by omega
    obtain ⟨eg, hea, _, _⟩ := RE.out _ BX.out.al k hn
    subst hea
    obtain ⟨ve, hve⟩ : ∃ x, E.getD k 0 = x := ⟨_, rfl⟩
    have CE : Hid (∀ W, Step cb [sv, ov] [sv, ov] w W → W.cell? ⟨eg, k, none⟩ = some (.int .i64 ve)) := Lib.hid (fun W hS => by
      obtain ⟨g, e, _, hcell⟩ := RE.out W hS k hn
      have e2 : (⟨eg, 0, none⟩ : Addr) = ⟨g, 0, none⟩ := Option.some.inj e
      injection e2 with e2
      rw [e2, hcell, ← hve]
      simp [List.getD, hn])
    have HVE := Lib.hid hve
    have m0 : W1.cell? ⟨cb, 0, none⟩ = some (.int .i64 q) := by rw [← HF1.out.2.2.1]; exact BX.out.ms.cells.1
    clear hc hve
    go_wp2_with fail
    refine (s_push BX.out.ms q).mono ?_
    rintro e w2 ⟨rfl, HC2, HS2⟩
    have B2 := Lib.hid (BX.out.next hcb HC2.out HS2.out)
    clear HC2 HS2
    have s2' := B2.out.s2
    have b1' := B2.out.b1
    have ce := CE.out _ B2.out.al
    obtain ⟨m0', _, _, _, _, _, _, _, gm⟩ := B2.out.ms.cells
    have hlt := B2.out.ms.lt
    have HP := Lib.hid (B2.out.ms.setPc ve)
    have B3 := Lib.hid (B2.out.next hcb HP.out.1 HP.out.2)
    have y0 : (0 : Int) ≤ (k : Int) := by omega
    have y1 : (k : Int) < (E.length : Int) := by omega
    clear m0 s2 b1
    go_wp2_with fail
    go_end0
    exact MsP.eq (MsP.of rfl B3.out) (by rw [HR.out, if_neg (by have := HC0.out; omega), Int.toNat_natCast, HVE.out, HF1.out.2.2.1])
end Go.Proofs.YtakgjlpgcepnkaaGreat

/-! The model's l11Perform: instructions 13, 16 -/
namespace Go.Proofs.YtakgjlpgcepnkaaGreat
open Go.RowKit Go.Lib

set_option maxRecDepth 100000 in
set_option maxHeartbeats 4000000 in
theorem s_perf13 (a0 a1 a2 : Option Addr) (c0 c1 c2 : Nat) (E : List Int) (B cb : Nat) (w : World) (sv ov : Value) (s : McS) (h : MsAt B cb w sv ov s) (hE : ∀ W, Below B w W → ReadI W a2 E) (hB1 : B ≤ cb) (hO : s.1.out.length ≤ 4000000) (n : Nat) (hpc : 0 ≤ s.1.pc + (n : Int) ∧ s.1.pc + (n : Int) ≤ 3000000) (hsp : 0 ≤ s.1.sp ∧ s.1.sp ≤ 1200) (s1 : McS) (hs1 : s1 = ({ s.1 with pc := s.1.pc + (n : Int) }, s.2)) (a : Int) (ha : 0 ≤ a ∧ a ≤ 70000) (r : McS) (hr : r = zerosS a.toNat ({ (pushS s1 s1.1.fp).1 with fp := (pushS s1 s1.1.fp).1.sp }, (pushS s1 s1.1.fp).2)) :
    Calls Tryz.prog 41 #[.agg #[.slice a0 2 c0, .slice a1 2 c1, .slice a2 E.length c2], .pointer (some ⟨cb, 0, none⟩), .agg #[.int .i64 13, .int .i64 a], .int .i64 (n : Int)] w (MsP B cb sv ov r w) := by
  have hcb := h.lt
  have HR := Lib.hid hr
  clear hr
  obtain ⟨m, f⟩ := s
  dsimp only at hO hpc hsp hs1
  obtain ⟨pc, hpcv⟩ : ∃ x, m.pc = x := ⟨_, rfl⟩
  obtain ⟨sp, hspv⟩ : ∃ x, m.sp = x := ⟨_, rfl⟩
  rw [hpcv] at hpc
  rw [hspv] at hsp
  obtain ⟨q, hq⟩ : ∃ x, pc + (n : Int) = x := ⟨_, rfl⟩
  have up : IntKind.i64.wrap (pc + (n : Int)) = q := (IntWalk.i64_in _ (by omega)).trans hq
  rw [hq] at hpc
  have HP0 := h.setPc q
  have hz0 : (w.setCell ⟨cb, 0, none⟩ (.int .i64 q)).heap.size = w.heap.size := by simp [World.setCell]
  have T2 := Lib.hid (two_new (w.setCell ⟨cb, 0, none⟩ (.int .i64 q)) (.cells #[.slice a0 2 c0, .slice a1 2 c1, .slice a2 E.length c2] 34) (.cells #[.int .i64 13, .int .i64 a] 75))
  have HP := HP0.1.below T2.out.2.2.2
  obtain ⟨W1, hW1⟩ : ∃ W, ((w.setCell ⟨cb, 0, none⟩ (.int .i64 q)).alloc (.cells #[.slice a0 2 c0, .slice a1 2 c1, .slice a2 E.length c2] 34)).alloc (.cells #[.int .i64 13, .int .i64 a] 75) = W := ⟨_, rfl⟩
  have HW1 := Lib.hid hW1
  rw [hW1] at HP T2
  obtain ⟨m0, m1, m2, m3, m4, _, _, m7, gm⟩ := h.cells
  have hlt := h.lt
  have BX : Hid (Bs B cb sv ov w a0 a1 a2 c0 c1 c2 E.length 13 a ({ m with pc := q }, f) W1) := Lib.hid (Bs.of HP (HP0.2.trans (Step.of_below T2.out.2.2.2)) (by have h := T2.out.1; rw [hz0] at h; exact h) (by have h := T2.out.2.1; rw [hz0] at h; exact h))
  rw [hpcv, hq] at hs1
  replace hs1 := hs1.symm
  have hf1 : s1.1.fp = m.fp := by rw [← hs1]
  have hp1 : s1.1.sp = sp := by rw [← hs1]; exact hspv
  have hq1 : s1.1.pc = q := by rw [← hs1]
  have ho1 : s1.1.out = m.out := by rw [← hs1]
  have HF1 := Lib.hid (And.intro hf1 (And.intro hp1 (And.intro hq1 ho1)))
  rw [hs1] at BX
  have RE : Hid (∀ W, Step cb [sv, ov] [sv, ov] w W → ReadI W a2 E) := Lib.hid (fun W hS => hE W (hS.base (by omega) hB1 (fun v hv g hg => by
    simp only [List.mem_cons, List.not_mem_nil, or_false] at hv
    rcases hv with rfl | rfl
    · exact (h.st.lt g hg).1
    · exact (h.out.lt g hg).1)))
  dsimp only at m0 m1
  rw [hpcv] at m0
  rw [hspv] at m1
  clear h hE hW1 HP HP0 hz0 T2 hs1 hf1 hp1 hq1 ho1 hpcv hspv hq m2 m3 m4 m7
  go_enter Tryz.func41, Tryz.ntmps41
  go_upto_region 3 with fail
  rw [HW1.out]
  have b0 := BX.out.b0
  clear m0 m1 gm hlt up HW1
  obtain ⟨k, rfl⟩ : ∃ k : Nat, a = (k : Int) := ⟨a.toNat, (Int.toNat_of_nonneg ha.1).symm⟩
  obtain ⟨fp, hfp⟩ : ∃ x, s1.1.fp = x := ⟨_, rfl⟩
  have m2 : W1.cell? ⟨cb, 2, none⟩ = some (.int .i64 fp) := by rw [← hfp]; exact BX.out.ms.cells.2.2.1
  have HFP := Lib.hid hfp
  clear hfp
  go_wp2_with fail
  refine (s_push BX.out.ms fp).mono ?_
  rintro e w1 ⟨rfl, HC1, HS1⟩
  have B1 := Lib.hid (BX.out.next hcb HC1.out HS1.out)
  clear HC1 HS1
  obtain ⟨v1, hv1⟩ : ∃ x, (pushS s1 fp).1.sp = x := ⟨_, rfl⟩
  have HV1 := Lib.hid hv1
  have HP := Lib.hid (B1.out.ms.setFp v1)
  have B2 := Lib.hid (B1.out.next hcb HP.out.1 HP.out.2)
  obtain ⟨_, m1', m2', _, _, _, _, _, gm⟩ := B1.out.ms.cells
  have hlt := B1.out.ms.lt
  rw [hv1] at m1'
  have b1 := B2.out.b1
  clear hv1 m2
  go_wp2_with fail
  refine (s_zeros B2.out.ms k (by omega)).mono ?_
  rintro e w3 ⟨rfl, HC3, HS3⟩
  have B3 := Lib.hid (B2.out.next hcb HC3.out HS3.out)
  clear HC3 HS3
  go_wp2
  go_end0
  exact MsP.eq (MsP.of rfl B3.out) (by rw [HR.out, Int.toNat_natCast, HFP.out, HV1.out])
set_option maxRecDepth 100000 in
set_option maxHeartbeats 4000000 in
theorem s_perf16 (a0 a1 a2 : Option Addr) (c0 c1 c2 : Nat) (E : List Int) (B cb : Nat) (w : World) (sv ov : Value) (s : McS) (h : MsAt B cb w sv ov s) (hE : ∀ W, Below B w W → ReadI W a2 E) (hB1 : B ≤ cb) (hO : s.1.out.length ≤ 4000000) (n : Nat) (hpc : 0 ≤ s.1.pc + (n : Int) ∧ s.1.pc + (n : Int) ≤ 3000000) (hsp : 0 ≤ s.1.sp ∧ s.1.sp ≤ 1200) (s1 : McS) (hs1 : s1 = ({ s.1 with pc := s.1.pc + (n : Int) }, s.2)) (a : Int) (ha : 0 ≤ a ∧ a ≤ 70000) (r : McS) (hr : r = perfS.backM (a.toNat / 16) (a.toNat % 16) (popS s1).1 (popS s1).2) :
    Calls Tryz.prog 41 #[.agg #[.slice a0 2 c0, .slice a1 2 c1, .slice a2 E.length c2], .pointer (some ⟨cb, 0, none⟩), .agg #[.int .i64 16, .int .i64 a], .int .i64 (n : Int)] w (MsP B cb sv ov r w) := by
  have hcb := h.lt
  have HR := Lib.hid hr
  clear hr
  obtain ⟨m, f⟩ := s
  dsimp only at hO hpc hsp hs1
  obtain ⟨pc, hpcv⟩ : ∃ x, m.pc = x := ⟨_, rfl⟩
  obtain ⟨sp, hspv⟩ : ∃ x, m.sp = x := ⟨_, rfl⟩
  rw [hpcv] at hpc
  rw [hspv] at hsp
  obtain ⟨q, hq⟩ : ∃ x, pc + (n : Int) = x := ⟨_, rfl⟩
  have up : IntKind.i64.wrap (pc + (n : Int)) = q := (IntWalk.i64_in _ (by omega)).trans hq
  rw [hq] at hpc
  have HP0 := h.setPc q
  have hz0 : (w.setCell ⟨cb, 0, none⟩ (.int .i64 q)).heap.size = w.heap.size := by simp [World.setCell]
  have T2 := Lib.hid (two_new (w.setCell ⟨cb, 0, none⟩ (.int .i64 q)) (.cells #[.slice a0 2 c0, .slice a1 2 c1, .slice a2 E.length c2] 34) (.cells #[.int .i64 16, .int .i64 a] 75))
  have HP := HP0.1.below T2.out.2.2.2
  obtain ⟨W1, hW1⟩ : ∃ W, ((w.setCell ⟨cb, 0, none⟩ (.int .i64 q)).alloc (.cells #[.slice a0 2 c0, .slice a1 2 c1, .slice a2 E.length c2] 34)).alloc (.cells #[.int .i64 16, .int .i64 a] 75) = W := ⟨_, rfl⟩
  have HW1 := Lib.hid hW1
  rw [hW1] at HP T2
  obtain ⟨m0, m1, m2, m3, m4, _, _, m7, gm⟩ := h.cells
  have hlt := h.lt
  have BX : Hid (Bs B cb sv ov w a0 a1 a2 c0 c1 c2 E.length 16 a ({ m with pc := q }, f) W1) := Lib.hid (Bs.of HP (HP0.2.trans (Step.of_below T2.out.2.2.2)) (by have h := T2.out.1; rw [hz0] at h; exact h) (by have h := T2.out.2.1; rw [hz0] at h; exact h))
  rw [hpcv, hq] at hs1
  replace hs1 := hs1.symm
  have hf1 : s1.1.fp = m.fp := by rw [← hs1]
  have hp1 : s1.1.sp = sp := by rw [← hs1]; exact hspv
  have hq1 : s1.1.pc = q := by rw [← hs1]
  have ho1 : s1.1.out = m.out := by rw [← hs1]
  have HF1 := Lib.hid (And.intro hf1 (And.intro hp1 (And.intro hq1 ho1)))
  rw [hs1] at BX
  have RE : Hid (∀ W, Step cb [sv, ov] [sv, ov] w W → ReadI W a2 E) := Lib.hid (fun W hS => hE W (hS.base (by omega) hB1 (fun v hv g hg => by
    simp only [List.mem_cons, List.not_mem_nil, or_false] at hv
    rcases hv with rfl | rfl
    · exact (h.st.lt g hg).1
    · exact (h.out.lt g hg).1)))
  dsimp only at m0 m1
  rw [hpcv] at m0
  rw [hspv] at m1
  clear h hE hW1 HP HP0 hz0 T2 hs1 hf1 hp1 hq1 ho1 hpcv hspv hq m2 m3 m4 m7
  go_enter Tryz.func41, Tryz.ntmps41
  go_upto_region 3 with fail
  rw [HW1.out]
  have b0 := BX.out.b0
  clear m0 m1 gm hlt up HW1
  obtain ⟨k, rfl⟩ : ∃ k : Nat, a = (k : Int) := ⟨a.toNat, (Int.toNat_of_nonneg ha.1).symm⟩
  have q1 : ((k : Int).tdiv 16) = ((k / 16 : Nat) : Int) := by rw [Int.natCast_ediv, Int.tdiv_eq_ediv_of_nonneg (by omega)]; rfl
  have q2 : ((k : Int).tmod 16) = ((k % 16 : Nat) : Int) := by rw [Int.natCast_emod, Int.tmod_eq_emod_of_nonneg (by omega)]; rfl
  go_wp2_with fail
  refine (s_pop BX.out.ms).mono ?_
  rintro e w1 ⟨rfl, HC1, HS1⟩
  have B1 := Lib.hid (BX.out.next hcb HC1.out HS1.out)
  clear HC1 HS1
  obtain ⟨v, hv⟩ : ∃ x, (popS s1).1 = x := ⟨_, rfl⟩
  obtain ⟨t1, ht1⟩ : ∃ x, (popS s1).2 = x := ⟨_, rfl⟩
  have hv0 := hv
  have HV := Lib.hid hv
  have HT := Lib.hid ht1
  rw [ht1] at B1
  (try rw [hv])
  clear hv ht1 hv0
  have b1 := B1.out.b1
  go_wp2_with fail
  refine (s_drop B1.out.ms (k / 16) (by omega)).mono ?_
  rintro e w2 ⟨rfl, HC2, HS2⟩
  have B2 := Lib.hid (B1.out.next hcb HC2.out HS2.out)
  clear HC2 HS2
  clear b1
  go_wp2_with fail
  refine (s_pop B2.out.ms).mono ?_
  rintro e w3 ⟨rfl, HC3, HS3⟩
  have B3 := Lib.hid (B2.out.next hcb HC3.out HS3.out)
  clear HC3 HS3
  have Pa := Lib.hid (B3.out.ms.setPc ((popS (dropS (k / 16) t1)).1))
  have Ca := Lib.hid (B3.out.next hcb Pa.out.1 Pa.out.2)
  obtain ⟨x0a, x1a, x2a, _, _, _, _, _, gma⟩ := B3.out.ms.cells
  have hlta := B3.out.ms.lt
  have b1 := Ca.out.b1
  go_wp2_with fail
  refine (s_drop Ca.out.ms (k % 16) (by omega)).mono ?_
  rintro e w4 ⟨rfl, HC4, HS4⟩
  have B4 := Lib.hid (Ca.out.next hcb HC4.out HS4.out)
  clear HC4 HS4
  go_wp2_with fail
  refine (s_push B4.out.ms v).mono ?_
  rintro e w5 ⟨rfl, HC5, HS5⟩
  have B5 := Lib.hid (B4.out.next hcb HC5.out HS5.out)
  clear HC5 HS5
  go_wp2
  go_end0
  exact MsP.eq (MsP.of rfl B5.out) (by rw [HR.out, Int.toNat_natCast]; unfold perfS.backM; dsimp only; rw [HV.out, HT.out])
end Go.Proofs.YtakgjlpgcepnkaaGreat

/-! The model's l11Perform: instructions 14 -/
namespace Go.Proofs.YtakgjlpgcepnkaaGreat
open Go.RowKit Go.Lib

set_option maxRecDepth 100000 in
set_option maxHeartbeats 4000000 in
theorem s_perf14 (a0 a1 a2 : Option Addr) (c0 c1 c2 : Nat) (E : List Int) (B cb : Nat) (w : World) (sv ov : Value) (s : McS) (h : MsAt B cb w sv ov s) (hE : ∀ W, Below B w W → ReadI W a2 E) (hB1 : B ≤ cb) (hO : s.1.out.length ≤ 4000000) (n : Nat) (hpc : 0 ≤ s.1.pc + (n : Int) ∧ s.1.pc + (n : Int) ≤ 3000000) (hsp : 0 ≤ s.1.sp ∧ s.1.sp ≤ 1200) (s1 : McS) (hs1 : s1 = ({ s.1 with pc := s.1.pc + (n : Int) }, s.2)) (a : Int) (ha : 0 ≤ a ∧ a ≤ 70000) (r : McS) (hr : r = if 0 ≤ (popS s1).2.1.fp ∧ (popS s1).2.1.fp ≤ 1200 then perfS.leaveM a.toNat (popS s1).1 (popS s1).2 else ((popS s1).2.1, true)) :
    Calls Tryz.prog 41 #[.agg #[.slice a0 2 c0, .slice a1 2 c1, .slice a2 E.length c2], .pointer (some ⟨cb, 0, none⟩), .agg #[.int .i64 14, .int .i64 a], .int .i64 (n : Int)] w (MsP B cb sv ov r w) := by
  have hcb := h.lt
  have HR := Lib.hid hr
  clear hr
  obtain ⟨m, f⟩ := s
  dsimp only at hO hpc hsp hs1
  obtain ⟨pc, hpcv⟩ : ∃ x, m.pc = x := ⟨_, rfl⟩
  obtain ⟨sp, hspv⟩ : ∃ x, m.sp = x := ⟨_, rfl⟩
  rw [hpcv] at hpc
  rw [hspv] at hsp
  obtain ⟨q, hq⟩ : ∃ x, pc + (n : Int) = x := ⟨_, rfl⟩
  have up : IntKind.i64.wrap (pc + (n : Int)) = q := (IntWalk.i64_in _ (by omega)).trans hq
  rw [hq] at hpc
  have HP0 := h.setPc q
  have hz0 : (w.setCell ⟨cb, 0, none⟩ (.int .i64 q)).heap.size = w.heap.size := by simp [World.setCell]
  have T2 := Lib.hid (two_new (w.setCell ⟨cb, 0, none⟩ (.int .i64 q)) (.cells #[.slice a0 2 c0, .slice a1 2 c1, .slice a2 E.length c2] 34) (.cells #[.int .i64 14, .int .i64 a] 75))
  have HP := HP0.1.below T2.out.2.2.2
  obtain ⟨W1, hW1⟩ : ∃ W, ((w.setCell ⟨cb, 0, none⟩ (.int .i64 q)).alloc (.cells #[.slice a0 2 c0, .slice a1 2 c1, .slice a2 E.length c2] 34)).alloc (.cells #[.int .i64 14, .int .i64 a] 75) = W := ⟨_, rfl⟩
  have HW1 := Lib.hid hW1
  rw [hW1] at HP T2
  obtain ⟨m0, m1, m2, m3, m4, _, _, m7, gm⟩ := h.cells
  have hlt := h.lt
  have BX : Hid (Bs B cb sv ov w a0 a1 a2 c0 c1 c2 E.length 14 a ({ m with pc := q }, f) W1) := Lib.hid (Bs.of HP (HP0.2.trans (Step.of_below T2.out.2.2.2)) (by have h := T2.out.1; rw [hz0] at h; exact h) (by have h := T2.out.2.1; rw [hz0] at h; exact h))
  rw [hpcv, hq] at hs1
  replace hs1 := hs1.symm
  have hf1 : s1.1.fp = m.fp := by rw [← hs1]
  have hp1 : s1.1.sp = sp := by rw [← hs1]; exact hspv
  have hq1 : s1.1.pc = q := by rw [← hs1]
  have ho1 : s1.1.out = m.out := by rw [← hs1]
  have HF1 := Lib.hid (And.intro hf1 (And.intro hp1 (And.intro hq1 ho1)))
  rw [hs1] at BX
  have RE : Hid (∀ W, Step cb [sv, ov] [sv, ov] w W → ReadI W a2 E) := Lib.hid (fun W hS => hE W (hS.base (by omega) hB1 (fun v hv g hg => by
    simp only [List.mem_cons, List.not_mem_nil, or_false] at hv
    rcases hv with rfl | rfl
    · exact (h.st.lt g hg).1
    · exact (h.out.lt g hg).1)))
  dsimp only at m0 m1
  rw [hpcv] at m0
  rw [hspv] at m1
  clear h hE hW1 HP HP0 hz0 T2 hs1 hf1 hp1 hq1 ho1 hpcv hspv hq m2 m3 m4 m7
  go_enter Tryz.func41, Tryz.ntmps41
  go_upto_region 3 with fail
  rw [HW1.out]
  have b0 := BX.out.b0
  clear m0 m1 gm hlt up HW1
  obtain ⟨k, rfl⟩ : ∃ k : Nat, a = (k : Int) := ⟨a.toNat, (Int.toNat_of_nonneg ha.1).symm⟩
  go_wp2_with fail
  refine (s_pop BX.out.ms).mono ?_
  rintro e w1 ⟨rfl, HC1, HS1⟩
  have B1 := Lib.hid (BX.out.next hcb HC1.out HS1.out)
  clear HC1 HS1
  obtain ⟨v, hv⟩ : ∃ x, (popS s1).1 = x := ⟨_, rfl⟩
  obtain ⟨t1, ht1⟩ : ∃ x, (popS s1).2 = x := ⟨_, rfl⟩
  have hv0 := hv
  have HV := Lib.hid hv
  have HT := Lib.hid ht1
  rw [ht1] at B1
  (try rw [hv])
  clear hv ht1 hv0
  obtain ⟨fp, hfp⟩ : ∃ x, t1.1.fp = x := ⟨_, rfl⟩
  have HFP := Lib.hid hfp
  have m2 : w1.cell? ⟨cb, 2, none⟩ = some (.int .i64 fp) := by rw [← hfp]; exact B1.out.ms.cells.2.2.1
  clear hfp
  by_cases hc : 0 ≤ fp ∧ fp ≤ 1200
  · have HI := Lib.hid (s_in7n fp 0 1200 w1)
    rw [decide_eq_true hc.1, decide_eq_true hc.2] at HI
    have HRF : Hid ((if 0 ≤ (popS s1).2.1.fp ∧ (popS s1).2.1.fp ≤ 1200 then perfS.leaveM k (popS s1).1 (popS s1).2 else ((popS s1).2.1, true)) = perfS.leaveM k v t1) := Lib.hid (by rw [HT.out, HV.out, HFP.out, if_pos hc])
    clear hc
    go_wp2_with fail
    refine HI.out.mono ?_
    rintro e wi ⟨rfl, rfl⟩
    have HP := Lib.hid (B1.out.ms.setSp fp)
    have B2 := Lib.hid (B1.out.next hcb HP.out.1 HP.out.2)
    obtain ⟨_, m1', _, _, _, _, _, _, gm⟩ := B1.out.ms.cells
    have hlt := B1.out.ms.lt
    obtain ⟨t2, ht2⟩ : ∃ x : McS, ({ t1.1 with sp := fp }, t1.2) = x := ⟨_, rfl⟩
    have HT2 := Lib.hid ht2
    rw [ht2] at B2
    clear ht2
    go_wp2_with fail
    refine (s_pop B2.out.ms).mono ?_
    rintro e w3 ⟨rfl, HC3, HS3⟩
    have B3 := Lib.hid (B2.out.next hcb HC3.out HS3.out)
    clear HC3 HS3
    have Pa := Lib.hid (B3.out.ms.setFp ((popS t2).1))
    have Ca := Lib.hid (B3.out.next hcb Pa.out.1 Pa.out.2)
    obtain ⟨x0a, x1a, x2a, _, _, _, _, _, gma⟩ := B3.out.ms.cells
    have hlta := B3.out.ms.lt
    obtain ⟨t3, ht3⟩ : ∃ x : McS, ({ (popS t2).2.1 with fp := (popS t2).1 }, (popS t2).2.2) = x := ⟨_, rfl⟩
    have HT3 := Lib.hid ht3
    rw [ht3] at Ca
    clear ht3
    go_wp2_with fail
    refine (s_pop Ca.out.ms).mono ?_
    rintro e w4 ⟨rfl, HC4, HS4⟩
    have B4 := Lib.hid (Ca.out.next hcb HC4.out HS4.out)
    clear HC4 HS4
    have Pb := Lib.hid (B4.out.ms.setPc ((popS t3).1))
    have Cb := Lib.hid (B4.out.next hcb Pb.out.1 Pb.out.2)
    obtain ⟨x0b, x1b, x2b, _, _, _, _, _, gmb⟩ := B4.out.ms.cells
    have hltb := B4.out.ms.lt
    have b1 := Cb.out.b1
    go_wp2_with fail
    refine (s_drop Cb.out.ms k (by omega)).mono ?_
    rintro e w5 ⟨rfl, HC5, HS5⟩
    have B5 := Lib.hid (Cb.out.next hcb HC5.out HS5.out)
    clear HC5 HS5
    go_wp2_with fail
    refine (s_push B5.out.ms v).mono ?_
    rintro e w6 ⟨rfl, HC6, HS6⟩
    have B6 := Lib.hid (B5.out.next hcb HC6.out HS6.out)
    clear HC6 HS6
    go_wp2
    go_end0
    exact MsP.eq (MsP.of rfl B6.out) (by rw [HR.out, Int.toNat_natCast, HRF.out]; unfold perfS.leaveM; dsimp only; have h2 := HT2.out; rw [← HFP.out] at h2; rw [h2, HT3.out])
  · have HI := Lib.hid (s_in7n fp 0 1200 w1)
    have hd : (decide (0 ≤ fp) && decide (fp ≤ 1200)) = false := by simp; omega
    rw [hd] at HI
    have HRF : Hid ((if 0 ≤ (popS s1).2.1.fp ∧ (popS s1).2.1.fp ≤ 1200 then perfS.leaveM k (popS s1).1 (popS s1).2 else ((popS s1).2.1, true)) = (t1.1, true)) := Lib.hid (by rw [HT.out, HFP.out, if_neg hc])
    have HF := Lib.hid (B1.out.ms.setB true)
    have BF := Lib.hid (B1.out.next hcb HF.out.1 HF.out.2)
    obtain ⟨_, _, _, _, _, _, _, e7, gm⟩ := B1.out.ms.cells
    have hlt := B1.out.ms.lt
    clear hc hd
    go_wp2_with fail
    refine HI.out.mono ?_
    rintro e wi ⟨rfl, rfl⟩
    go_wp2
    go_end0
    exact MsP.eq (MsP.of rfl BF.out) (by rw [HR.out, Int.toNat_natCast, HRF.out])
end Go.Proofs.YtakgjlpgcepnkaaGreat

/-! The model's l11Perform: instructions 17, Op -/
namespace Go.Proofs.YtakgjlpgcepnkaaGreat
open Go.RowKit Go.Lib

set_option maxRecDepth 100000 in
set_option maxHeartbeats 4000000 in
theorem s_perf17 (a0 a1 a2 : Option Addr) (c0 c1 c2 : Nat) (E : List Int) (B cb : Nat) (w : World) (sv ov : Value) (s : McS) (h : MsAt B cb w sv ov s) (hE : ∀ W, Below B w W → ReadI W a2 E) (hB1 : B ≤ cb) (hO : s.1.out.length ≤ 4000000) (n : Nat) (hpc : 0 ≤ s.1.pc + (n : Int) ∧ s.1.pc + (n : Int) ≤ 3000000) (hsp : 0 ≤ s.1.sp ∧ s.1.sp ≤ 1200) (s1 : McS) (hs1 : s1 = ({ s.1 with pc := s.1.pc + (n : Int) }, s.2)) (a : Int) (r : McS) (hr : r = ({ (popS s1).2.1 with out := (popS s1).2.1.out ++ [(popS s1).1] }, (popS s1).2.2)) :
    Calls Tryz.prog 41 #[.agg #[.slice a0 2 c0, .slice a1 2 c1, .slice a2 E.length c2], .pointer (some ⟨cb, 0, none⟩), .agg #[.int .i64 17, .int .i64 a], .int .i64 (n : Int)] w (MsP B cb sv ov r w) := by
  have hcb := h.lt
  have HR := Lib.hid hr
  clear hr
  obtain ⟨m, f⟩ := s
  dsimp only at hO hpc hsp hs1
  obtain ⟨pc, hpcv⟩ : ∃ x, m.pc = x := ⟨_, rfl⟩
  obtain ⟨sp, hspv⟩ : ∃ x, m.sp = x := ⟨_, rfl⟩
  rw [hpcv] at hpc
  rw [hspv] at hsp
  obtain ⟨q, hq⟩ : ∃ x, pc + (n : Int) = x := ⟨_, rfl⟩
  have up : IntKind.i64.wrap (pc + (n : Int)) = q := (IntWalk.i64_in _ (by omega)).trans hq
  rw [hq] at hpc
  have HP0 := h.setPc q
  have hz0 : (w.setCell ⟨cb, 0, none⟩ (.int .i64 q)).heap.size = w.heap.size := by simp [World.setCell]
  have T2 := Lib.hid (two_new (w.setCell ⟨cb, 0, none⟩ (.int .i64 q)) (.cells #[.slice a0 2 c0, .slice a1 2 c1, .slice a2 E.length c2] 34) (.cells #[.int .i64 17, .int .i64 a] 75))
  have HP := HP0.1.below T2.out.2.2.2
  obtain ⟨W1, hW1⟩ : ∃ W, ((w.setCell ⟨cb, 0, none⟩ (.int .i64 q)).alloc (.cells #[.slice a0 2 c0, .slice a1 2 c1, .slice a2 E.length c2] 34)).alloc (.cells #[.int .i64 17, .int .i64 a] 75) = W := ⟨_, rfl⟩
  have HW1 := Lib.hid hW1
  rw [hW1] at HP T2
  obtain ⟨m0, m1, m2, m3, m4, _, _, m7, gm⟩ := h.cells
  have hlt := h.lt
  have BX : Hid (Bs B cb sv ov w a0 a1 a2 c0 c1 c2 E.length 17 a ({ m with pc := q }, f) W1) := Lib.hid (Bs.of HP (HP0.2.trans (Step.of_below T2.out.2.2.2)) (by have h := T2.out.1; rw [hz0] at h; exact h) (by have h := T2.out.2.1; rw [hz0] at h; exact h))
  rw [hpcv, hq] at hs1
  replace hs1 := hs1.symm
  have hf1 : s1.1.fp = m.fp := by rw [← hs1]
  have hp1 : s1.1.sp = sp := by rw [← hs1]; exact hspv
  have hq1 : s1.1.pc = q := by rw [← hs1]
  have ho1 : s1.1.out = m.out := by rw [← hs1]
  have HF1 := Lib.hid (And.intro hf1 (And.intro hp1 (And.intro hq1 ho1)))
  rw [hs1] at BX
  have RE : Hid (∀ W, Step cb [sv, ov] [sv, ov] w W → ReadI W a2 E) := Lib.hid (fun W hS => hE W (hS.base (by omega) hB1 (fun v hv g hg => by
    simp only [List.mem_cons, List.not_mem_nil, or_false] at hv
    rcases hv with rfl | rfl
    · exact (h.st.lt g hg).1
    · exact (h.out.lt g hg).1)))
  dsimp only at m0 m1
  rw [hpcv] at m0
  rw [hspv] at m1
  clear h hE hW1 HP HP0 hz0 T2 hs1 hf1 hp1 hq1 ho1 hpcv hspv hq m2 m3 m4 m7
  go_enter Tryz.func41, Tryz.ntmps41
  go_upto_region 3 with fail
  rw [HW1.out]
  have b0 := BX.out.b0
  clear m0 m1 gm hlt up HW1
  obtain ⟨i0, hi, hz0, hz1, hz2⟩ := info_parts infoIntS
  have P := Lib.hid (s_pop (BX.out.drew hcb).ms)
  obtain ⟨v, hv⟩ : ∃ x, (popS s1).1 = x := ⟨_, rfl⟩
  obtain ⟨t1, ht1⟩ : ∃ x, (popS s1).2 = x := ⟨_, rfl⟩
  have hto : t1.1.out = m.out := by rw [← ht1, (popS_m s1).2.2]; exact HF1.out.2.2.2
  rw [hv, ht1] at P
  have HVT := Lib.hid (And.intro hv ht1)
  obtain ⟨on, hon⟩ : ∃ x, t1.1.out.length = x := ⟨_, rfl⟩
  have HON := Lib.hid hon
  have hon2 : on ≤ 4000000 := by rw [← hon, hto]; exact hO
  obtain ⟨oa, oc, hov⟩ := own_shS BX.out.ms.out
  rw [show s1.1.out.length = on from by rw [HF1.out.2.2.2, ← hto]; exact hon] at hov
  subst hov
  have KB := Lib.hid (BX.out.drew hcb)
  have K0 := Lib.hid BX.out.ms.cells.2.2.2.2.1
  have hm3 : on + 1 ≤ maxLen := by unfold maxLen; omega
  have hb3 : (on + 1) * 8 ≤ 140737488355328 := by omega
  clear hv ht1 hto hon
  go_upto_region 49 with fail
  refine E_start (S := (fun w' => w'.cell? ⟨cb, 4, none⟩ = some (.slice oa on oc))) 13 (by kernel_rfl) (K0.out) (fun hHeld => ?_)
  refine E_take (i := 0) (oi := _) (v := ?_) rfl (by kernel_rfl) (fun _ _ _ h => h) ?_ (by assumption) ?_
  rotate_left 1
  · (refine Or.inl ⟨by rfl, ?_⟩; intro w hSw; (try dsimp only at hSw); (try simp only [List.getElem_toArray, List.getElem_cons_zero, List.getElem_cons_succ]); go_simp; (first | done | with_reducible rfl))
  try simp only [Act.put, List.setIfInBounds_toArray, List.set_cons_zero, List.set_cons_succ, List.getElem_toArray, List.getElem_cons_zero, List.getElem_cons_succ]
  refine E_take (i := 1) (oi := _) (v := ?_) rfl (by kernel_rfl) (fun _ _ _ h => h) ?_ (by assumption) ?_
  rotate_left 1
  · (refine Or.inl ⟨by rfl, ?_⟩; intro w hSw; (try dsimp only at hSw); (try simp only [List.getElem_toArray, List.getElem_cons_zero, List.getElem_cons_succ]); go_simp; (first | done | with_reducible rfl))
  try simp only [Act.put, List.setIfInBounds_toArray, List.set_cons_zero, List.set_cons_succ, List.getElem_toArray, List.getElem_cons_zero, List.getElem_cons_succ]
  refine E_take (i := 2) (oi := _) (v := ?_) rfl (by kernel_rfl) (fun _ _ _ h => h) ?_ (by assumption) ?_
  rotate_left 1
  · (refine Or.inl ⟨by rfl, ?_⟩; intro w hSw; (try dsimp only at hSw); (try simp only [List.getElem_toArray, List.getElem_cons_zero, List.getElem_cons_succ]); go_simp; (first | done | with_reducible rfl))
  try simp only [Act.put, List.setIfInBounds_toArray, List.set_cons_zero, List.set_cons_succ, List.getElem_toArray, List.getElem_cons_zero, List.getElem_cons_succ]
  refine E_take (i := 3) (oi := _) (v := ?_) rfl (by kernel_rfl) (fun _ _ _ h => h) ?_ (by assumption) ?_
  rotate_left 1
  · (refine Or.inl ⟨by rfl, ?_⟩; intro w hSw; (try dsimp only at hSw); (try simp only [List.getElem_toArray, List.getElem_cons_zero, List.getElem_cons_succ]); go_simp; (first | done | with_reducible rfl))
  try simp only [Act.put, List.setIfInBounds_toArray, List.set_cons_zero, List.set_cons_succ, List.getElem_toArray, List.getElem_cons_zero, List.getElem_cons_succ]
  refine E_take (i := 4) (oi := _) (v := ?_) rfl (by kernel_rfl) (fun _ _ _ h => h) ?_ (by assumption) ?_
  rotate_left 1
  · (refine Or.inl ⟨by rfl, ?_⟩; intro w hSw; (try dsimp only at hSw); (try simp only [List.getElem_toArray, List.getElem_cons_zero, List.getElem_cons_succ]); go_simp; (first | done | with_reducible rfl))
  try simp only [Act.put, List.setIfInBounds_toArray, List.set_cons_zero, List.set_cons_succ, List.getElem_toArray, List.getElem_cons_zero, List.getElem_cons_succ]
  refine E_take (i := 5) (oi := _) (v := ?_) rfl (by kernel_rfl) (fun _ _ _ h => h) ?_ (by assumption) ?_
  rotate_left 1
  · (refine Or.inl ⟨by rfl, ?_⟩; intro w hSw; (try dsimp only at hSw); (try simp only [List.getElem_toArray, List.getElem_cons_zero, List.getElem_cons_succ]); go_simp; (first | done | with_reducible rfl))
  try simp only [Act.put, List.setIfInBounds_toArray, List.set_cons_zero, List.set_cons_succ, List.getElem_toArray, List.getElem_cons_zero, List.getElem_cons_succ]
  refine E_take (i := 6) (oi := _) (v := ?_) rfl (by kernel_rfl) (fun _ _ _ h => h) ?_ (by assumption) ?_
  rotate_left 1
  · (refine Or.inl ⟨by rfl, ?_⟩; intro w hSw; (try dsimp only at hSw); (try simp only [List.getElem_toArray, List.getElem_cons_zero, List.getElem_cons_succ]); go_simp; (first | done | with_reducible rfl))
  try simp only [Act.put, List.setIfInBounds_toArray, List.set_cons_zero, List.set_cons_succ, List.getElem_toArray, List.getElem_cons_zero, List.getElem_cons_succ]
  refine E_ready (rs := [7]) (by kernel_rfl) (by decide) ?_
  refine AllE.cons (o := _) rfl (fun K hK => ?_) AllE.nil
  try simp only [List.getElem_toArray, List.getElem_cons_zero, List.getElem_cons_succ]
  go_simp
  refine (P.out).mono ?_
  rintro e w1 ⟨rfl, HC1, HS1⟩
  go_wp2_with fail
  have B1 := Lib.hid (KB.out.next hcb HC1.out HS1.out)
  have K1 := Lib.hid B1.out.ms.cells.2.2.2.2.1
  have HOW : Hid (w1.ownsRow B 3 1 (.slice oa on oc) on (intV t1.1.out)) := Lib.hid (by have h := B1.out.ms.out; rw [HON.out] at h; exact h)
  have K2 : Hid ((w1.alloc (.cells #[.int .i64 v] 3)).cell? ⟨cb, 4, none⟩ = some (.slice oa on oc)) := Lib.hid ((alloc_cellS B1.out.ms.lt).trans K1.out)
  have HNW : Hid (∀ j u, (#[Value.int .i64 v].toList)[j]? = some u → (w1.alloc (.cells #[.int .i64 v] 3)).cell? ((⟨w1.heap.size, 0, none⟩ : Addr).add j) = some u) := Lib.hid (World.news_of_block (cs := #[.int .i64 v]) (t := 3) (fr := (0, 0)) (heap_alloc_new w1 _))
  have HBB : Hid (B ≤ (w1.alloc (.cells #[.int .i64 v] 3)).heap.size) := Lib.hid (by have := B1.out.ms.lt; simp; omega)
  clear HC1 HS1
  refine hK.out _ _ (K1.out) (fun hHeld => ?_)
  clear hK K
  try simp only [Act.put, List.setIfInBounds_toArray, List.set_cons_zero, List.set_cons_succ, List.getElem_toArray, List.getElem_cons_zero, List.getElem_cons_succ]
  refine E_ready (rs := [8]) (by kernel_rfl) (by decide) ?_
  refine AllE.cons (o := _) rfl (fun K hK => ?_) AllE.nil
  try simp only [List.getElem_toArray, List.getElem_cons_zero, List.getElem_cons_succ]
  go_simp
  refine hK.out _ _ (K2.out) (fun hHeld => ?_)
  clear hK K
  try simp only [Act.put, List.setIfInBounds_toArray, List.set_cons_zero, List.set_cons_succ, List.getElem_toArray, List.getElem_cons_zero, List.getElem_cons_succ]
  refine E_ready (rs := [9]) (by kernel_rfl) (by decide) ?_
  refine AllE.cons (o := _) rfl (fun K hK => ?_) AllE.nil
  refine step_append_keeps rfl (.tmp 257) (.tmp 260) 23 rfl B 3 i0 _ 1 8 Tryz.underlying23 hi hz0 hz1 hz2 rfl (by decide) (.slice oa on oc) on (intV t1.1.out) rfl (HOW.out.alloc _) ⟨w1.heap.size, 0, none⟩ 1 1 #[Value.int .i64 v].toList rfl rfl HNW.out (fun u hu => by simp at hu; subst hu; rfl) (by decide) hm3 hb3 HBB.out _ rfl ?_
  intro g3 c3 w3 O3 G3 A3 L3 OLD
  have FW := Lib.hid (fin_outS B1.out.ms HON.out (v := v) G3 O3 A3)
  have K3 := Lib.hid FW.out.1
  have g4 := FW.out.2.2.2.1
  have hlt3 := FW.out.2.2.2.2
  have m4 := FW.out.1
  refine hK.out _ _ (K3.out) (fun hHeld => ?_)
  clear hK K
  try simp only [Act.put, List.setIfInBounds_toArray, List.set_cons_zero, List.set_cons_succ, List.getElem_toArray, List.getElem_cons_zero, List.getElem_cons_succ]
  refine E_take (i := 10) (oi := _) (v := ?_) rfl (by kernel_rfl) (fun _ _ _ h => h) ?_ (by assumption) ?_
  rotate_left 1
  · (refine Or.inl ⟨by rfl, ?_⟩; intro w hSw; (try dsimp only at hSw); (try simp only [List.getElem_toArray, List.getElem_cons_zero, List.getElem_cons_succ]); go_simp; (first | done | with_reducible rfl))
  try simp only [Act.put, List.setIfInBounds_toArray, List.set_cons_zero, List.set_cons_succ, List.getElem_toArray, List.getElem_cons_zero, List.getElem_cons_succ]
  refine E_take (i := 11) (oi := _) (v := ?_) rfl (by kernel_rfl) (fun _ _ _ h => h) ?_ (by assumption) ?_
  rotate_left 1
  · (refine Or.inl ⟨by rfl, ?_⟩; intro w hSw; (try dsimp only at hSw); (try simp only [List.getElem_toArray, List.getElem_cons_zero, List.getElem_cons_succ]); go_simp; (first | done | with_reducible rfl))
  try simp only [Act.put, List.setIfInBounds_toArray, List.set_cons_zero, List.set_cons_succ, List.getElem_toArray, List.getElem_cons_zero, List.getElem_cons_succ]
  refine E_take (i := 12) (oi := _) (v := ?_) rfl (by kernel_rfl) (fun _ _ _ h => h) ?_ (by assumption) ?_
  rotate_left 1
  · (refine Or.inl ⟨by rfl, ?_⟩; intro w hSw; (try dsimp only at hSw); (try simp only [List.getElem_toArray, List.getElem_cons_zero, List.getElem_cons_succ]); go_simp; (first | done | with_reducible rfl))
  try simp only [Act.put, List.setIfInBounds_toArray, List.set_cons_zero, List.set_cons_succ, List.getElem_toArray, List.getElem_cons_zero, List.getElem_cons_succ]
  refine E_last (o := _) (by kernel_rfl) rfl (by kernel_rfl) (fun K hK => ?_)
  try simp only [List.getElem_toArray, List.getElem_cons_zero, List.getElem_cons_succ]
  go_simp
  refine hK.out _ _ ?_
  clear hK K
  go_wp2
  go_end0
  exact MsP.eq (s'' := ({ t1.1 with out := t1.1.out ++ [v] }, t1.2)) ⟨rfl, _, FW.out.2.1, Lib.hid (B1.out.al.trans FW.out.2.2.1.out)⟩ (by rw [HR.out, HVT.out.1, HVT.out.2])
set_option maxRecDepth 100000 in
set_option maxHeartbeats 4000000 in
theorem s_perfOp (a0 a1 a2 : Option Addr) (c0 c1 c2 : Nat) (E : List Int) (B cb : Nat) (w : World) (sv ov : Value) (s : McS) (h : MsAt B cb w sv ov s) (hE : ∀ W, Below B w W → ReadI W a2 E) (hB1 : B ≤ cb) (hO : s.1.out.length ≤ 4000000) (n : Nat) (hpc : 0 ≤ s.1.pc + (n : Int) ∧ s.1.pc + (n : Int) ≤ 3000000) (hsp : 0 ≤ s.1.sp ∧ s.1.sp ≤ 1200) (s1 : McS) (hs1 : s1 = ({ s.1 with pc := s.1.pc + (n : Int) }, s.2)) (a : Int) (c : Int) (hc : 5 ≤ c ∧ c ≤ 9) (r : McS) (hr : r = pushS (popS (popS s1).2).2 (appZ (c - 5 + 2) (popS (popS s1).2).1 (popS s1).1)) :
    Calls Tryz.prog 41 #[.agg #[.slice a0 2 c0, .slice a1 2 c1, .slice a2 E.length c2], .pointer (some ⟨cb, 0, none⟩), .agg #[.int .i64 c, .int .i64 a], .int .i64 (n : Int)] w (MsP B cb sv ov r w) := by
  have hcb := h.lt
  have HR := Lib.hid hr
  clear hr
  obtain ⟨m, f⟩ := s
  dsimp only at hO hpc hsp hs1
  obtain ⟨pc, hpcv⟩ : ∃ x, m.pc = x := ⟨_, rfl⟩
  obtain ⟨sp, hspv⟩ : ∃ x, m.sp = x := ⟨_, rfl⟩
  rw [hpcv] at hpc
  rw [hspv] at hsp
  obtain ⟨q, hq⟩ : ∃ x, pc + (n : Int) = x := ⟨_, rfl⟩
  have up : IntKind.i64.wrap (pc + (n : Int)) = q := (IntWalk.i64_in _ (by omega)).trans hq
  rw [hq] at hpc
  have HP0 := h.setPc q
  have hz0 : (w.setCell ⟨cb, 0, none⟩ (.int .i64 q)).heap.size = w.heap.size := by simp [World.setCell]
  have T2 := Lib.hid (two_new (w.setCell ⟨cb, 0, none⟩ (.int .i64 q)) (.cells #[.slice a0 2 c0, .slice a1 2 c1, .slice a2 E.length c2] 34) (.cells #[.int .i64 c, .int .i64 a] 75))
  have HP := HP0.1.below T2.out.2.2.2
  obtain ⟨W1, hW1⟩ : ∃ W, ((w.setCell ⟨cb, 0, none⟩ (.int .i64 q)).alloc (.cells #[.slice a0 2 c0, .slice a1 2 c1, .slice a2 E.length c2] 34)).alloc (.cells #[.int .i64 c, .int .i64 a] 75) = W := ⟨_, rfl⟩
  have HW1 := Lib.hid hW1
  rw [hW1] at HP T2
  obtain ⟨m0, m1, m2, m3, m4, _, _, m7, gm⟩ := h.cells
  have hlt := h.lt
  have BX : Hid (Bs B cb sv ov w a0 a1 a2 c0 c1 c2 E.length c a ({ m with pc := q }, f) W1) := Lib.hid (Bs.of HP (HP0.2.trans (Step.of_below T2.out.2.2.2)) (by have h := T2.out.1; rw [hz0] at h; exact h) (by have h := T2.out.2.1; rw [hz0] at h; exact h))
  rw [hpcv, hq] at hs1
  replace hs1 := hs1.symm
  have hf1 : s1.1.fp = m.fp := by rw [← hs1]
  have hp1 : s1.1.sp = sp := by rw [← hs1]; exact hspv
  have hq1 : s1.1.pc = q := by rw [← hs1]
  have ho1 : s1.1.out = m.out := by rw [← hs1]
  have HF1 := Lib.hid (And.intro hf1 (And.intro hp1 (And.intro hq1 ho1)))
  rw [hs1] at BX
  have RE : Hid (∀ W, Step cb [sv, ov] [sv, ov] w W → ReadI W a2 E) := Lib.hid (fun W hS => hE W (hS.base (by omega) hB1 (fun v hv g hg => by
    simp only [List.mem_cons, List.not_mem_nil, or_false] at hv
    rcases hv with rfl | rfl
    · exact (h.st.lt g hg).1
    · exact (h.out.lt g hg).1)))
  dsimp only at m0 m1
  rw [hpcv] at m0
  rw [hspv] at m1
  clear h hE hW1 HP HP0 hz0 T2 hs1 hf1 hp1 hq1 ho1 hpcv hspv hq m2 m3 m4 m7
  go_enter Tryz.func41, Tryz.ntmps41
  go_upto_region 3 with fail
  rw [HW1.out]
  have b0 := BX.out.b0
  clear m0 m1 gm hlt up HW1
  have u1 : IntKind.i64.wrap (c - 5) = c - 5 := IntWalk.i64_in _ (by omega)
  have u2 : IntKind.i64.wrap (c - 5 + 2) = c - 5 + 2 := IntWalk.i64_in _ (by omega)
  have e00 : (c == 0) = false := by simp; omega
  have e01 : (c == 1) = false := by simp; omega
  have e02 : (c == 2) = false := by simp; omega
  have e03 : (c == 3) = false := by simp; omega
  have e04 : (c == 4) = false := by simp; omega
  have e10 : (c == 10) = false := by simp; omega
  have e11 : (c == 11) = false := by simp; omega
  have e12 : (c == 12) = false := by simp; omega
  have e13 : (c == 13) = false := by simp; omega
  have e14 : (c == 14) = false := by simp; omega
  have e15 : (c == 15) = false := by simp; omega
  have e16 : (c == 16) = false := by simp; omega
  have e17 : (c == 17) = false := by simp; omega
  go_wp2_with fail
  refine (s_pop BX.out.ms).mono ?_
  rintro e w1 ⟨rfl, HC1, HS1⟩
  have B1 := Lib.hid (BX.out.next hcb HC1.out HS1.out)
  clear HC1 HS1
  go_wp2_with fail
  refine (s_pop B1.out.ms).mono ?_
  rintro e w2 ⟨rfl, HC2, HS2⟩
  have B2 := Lib.hid (B1.out.next hcb HC2.out HS2.out)
  clear HC2 HS2
  have b0' := B2.out.b0
  go_wp2_with fail
  refine (s_apply (c - 5 + 2) (popS (popS s1).2).1 (popS s1).1 _).mono ?_
  rintro e wx ⟨rfl, rfl⟩
  go_wp2_with fail
  refine (s_push B2.out.ms (appZ (c - 5 + 2) (popS (popS s1).2).1 (popS s1).1)).mono ?_
  rintro e w3 ⟨rfl, HC3, HS3⟩
  have B3 := Lib.hid (B2.out.next hcb HC3.out HS3.out)
  clear HC3 HS3
  go_wp2
  go_end0
  exact MsP.eq (MsP.of rfl B3.out) (HR.out)
end Go.Proofs.YtakgjlpgcepnkaaGreat
