/- RunMachine answers as its model for every space, every machine and every limit, and what it makes is its own. No condition. (Begun.) -/
import Derived.Test.YtakgjlpgcepnkaaGreatI24
import Derived.Test.YtakgjlpgcepnkaaGreatI23
import Derived.Test.YtakgjlpgcepnkaaGreatI25
import Derived.Test.YtakgjlpgcepnkaaGreatI27
import Derived.Test.YtakgjlpgcepnkaaGreatI26
import Derived.Deep.RegionHeld3
import Derived.Lib.SmallJoins
import Derived.ProofKit
import Derived.OpenShut
import Derived.ShutString
import Derived.ChangeOld
import Derived.Below
import Derived.Carry
namespace Go.Proofs.YtakgjlpgcepnkaaGreat.fnExactRunMachine
open Go.ChangeShapes Go.WideShapes Go.ChangeAt Go.RowKit Go.Lib
open Go.ChangeMaps (open_string shut_string)

theorem keep3s {w w' : World} {b : Nat} {x0 x1 x2 : Value} (hb : Below w.heap.size w w') (hlt : b < w.heap.size) (h : w.cell? ⟨b, 0, none⟩ = some x0 ∧ w.cell? ⟨b, 1, none⟩ = some x1 ∧ w.cell? ⟨b, 2, none⟩ = some x2) : w'.cell? ⟨b, 0, none⟩ = some x0 ∧ w'.cell? ⟨b, 1, none⟩ = some x1 ∧ w'.cell? ⟨b, 2, none⟩ = some x2 :=
  ⟨(hb.cell (p := ⟨b, 0, none⟩) hlt).trans h.1, (hb.cell (p := ⟨b, 1, none⟩) hlt).trans h.2.1, (hb.cell (p := ⟨b, 2, none⟩) hlt).trans h.2.2⟩
theorem keep7s {w w' : World} {b : Nat} {x0 x1 x2 x3 x4 x5 x6 : Value} (hb : Below w.heap.size w w') (hlt : b < w.heap.size) (h : w.cell? ⟨b, 0, none⟩ = some x0 ∧ w.cell? ⟨b, 1, none⟩ = some x1 ∧ w.cell? ⟨b, 2, none⟩ = some x2 ∧ w.cell? ⟨b, 3, none⟩ = some x3 ∧ w.cell? ⟨b, 4, none⟩ = some x4 ∧ w.cell? ⟨b, 5, none⟩ = some x5 ∧ w.cell? ⟨b, 6, none⟩ = some x6) : w'.cell? ⟨b, 0, none⟩ = some x0 ∧ w'.cell? ⟨b, 1, none⟩ = some x1 ∧ w'.cell? ⟨b, 2, none⟩ = some x2 ∧ w'.cell? ⟨b, 3, none⟩ = some x3 ∧ w'.cell? ⟨b, 4, none⟩ = some x4 ∧ w'.cell? ⟨b, 5, none⟩ = some x5 ∧ w'.cell? ⟨b, 6, none⟩ = some x6 := by
  obtain ⟨h0, h1, h2, h3, h4, h5, h6⟩ := h
  exact ⟨(hb.cell (p := ⟨b, 0, none⟩) hlt).trans h0, (hb.cell (p := ⟨b, 1, none⟩) hlt).trans h1, (hb.cell (p := ⟨b, 2, none⟩) hlt).trans h2, (hb.cell (p := ⟨b, 3, none⟩) hlt).trans h3, (hb.cell (p := ⟨b, 4, none⟩) hlt).trans h4, (hb.cell (p := ⟨b, 5, none⟩) hlt).trans h5, (hb.cell (p := ⟨b, 6, none⟩) hlt).trans h6⟩
theorem owns_if {B T n s : Nat} {w w' : World} {v : Value} {xs : List Value} (h : w.ownsRow B T s v n xs) (hk : ∀ g, v.ownBlock = some g → w'.heap[g]? = w.heap[g]?) : w'.ownsRow B T s v n xs := by
  refine ⟨h.1, ?_⟩
  rcases h.2 with hn | ⟨g, cap, cur, rfl, hb, hgg, rest⟩
  · exact .inl hn
  · refine .inr ⟨g, cap, cur, rfl, hb, ?_, rest⟩
    rw [hk g (by simp [Value.ownBlock])]
    exact hgg
theorem psI_can (l : List (ByteArray × List SyL)) : psI (canI l) = l := by
  unfold psI canI
  rw [List.map_map]
  exact List.map_id l
theorem runZ_can (X : List ImA) (B E : List Int) (m : McL) (lim : Int) : runZ X B E m lim = runZ (canI (psI X)) B E m lim := by
  unfold runZ
  rw [spB_can X, fetI_can X (canI (psI X)) B (psI_can _).symm]
theorem runM_is {fet : Int → Option (OpL × Nat)} {E : List Int} (hs : ∀ m, McIs m → McIs (stepM fet E m)) (n : Nat) (m : McL) (hm : McIs m) : McIs (runM fet E n m).1 := by
  induction n generalizing m with
  | zero => exact hm
  | succ n ih =>
    by_cases h : m.stt = 0
    · rw [runM_go h]; exact ih _ (hs m hm)
    · rw [runM_stop h]; exact hm
theorem runM_out {fet : Int → Option (OpL × Nat)} {E : List Int} (n : Nat) (m : McL) : (runM fet E n m).1.out.length ≤ m.out.length + n := by
  induction n generalizing m with
  | zero => exact Nat.le_refl _
  | succ n ih =>
    by_cases h : m.stt = 0
    · rw [runM_go h]
      have h1 := ih (stepM fet E m)
      have h2 := step_out (fet := fet) (E := E) (m := m)
      show (runM fet E n (stepM fet E m)).1.out.length ≤ _
      omega
    · rw [runM_stop h]; exact Nat.le_add_right _ _
theorem runZ_len (I : List ImA) (B E : List Int) (m : McL) (lim : Int) (hE : ∀ e ∈ E, I64 e) (hn : McN m) : (runZ I B E m lim).1.st.length = m.st.length ∧ (runZ I B E m lim).1.out.length ≤ m.out.length + 20000 := by
  unfold runZ
  split
  · rename_i h
    have hm := hn.is h.2.1
    have h1 := runM_out (fet := fetI I B) (E := E) lim.toNat m
    exact ⟨(runM_is (fun m hm => step_isI h.1 hE hm) lim.toNat m hm).len.trans hm.len.symm, by omega⟩
  · exact ⟨rfl, Nat.le_add_right _ _⟩
set_option maxRecDepth 100000 in
set_option maxHeartbeats 4000000 in
theorem walk (a0 a1 a2 : Option Addr) (c0 c1 c2 : Nat) (I : List ImA) (B E : List Int) (m : McL) (aS aO : Option Addr) (cS cO : Nat) (lim : Int) (w : World) (hI : I.length ≤ maxLen) (hB : B.length ≤ maxLen) (hE : E.length ≤ maxLen) (hE64 : ∀ e ∈ E, I64 e) (ha : ArgSp w a0 I a1 B a2 E)
    (hma : ArgM w aS aO m) (hmS : m.st.length ≤ maxLen) (hmO : m.out.length ≤ maxLen) (hmn : McNum m) (_hlim : (Lit.int .i64 lim).wf = true) :
    Calls Tryz.prog 4 #[.agg #[.slice a0 I.length c0, .slice a1 B.length c1, .slice a2 E.length c2], mcA m (.slice aS m.st.length cS) (.slice aO m.out.length cO), .int .i64 lim] w fun e w' => e = .returned (.bool true) ∧ Below w.heap.size w w' := by
  have T2 := Lib.hid (two_new w (.cells #[.slice a0 I.length c0, .slice a1 B.length c1, .slice a2 E.length c2] 25) (.cells (mcRow m (.slice aS m.st.length cS) (.slice aO m.out.length cO)) 27))
  obtain ⟨W0, hW0⟩ : ∃ W, (w.alloc (.cells #[.slice a0 I.length c0, .slice a1 B.length c1, .slice a2 E.length c2] 25)).alloc (.cells (mcRow m (.slice aS m.st.length cS) (.slice aO m.out.length cO)) 27) = W := ⟨_, rfl⟩
  rw [hW0] at T2
  have HB0 : Hid (Below w.heap.size w W0) := Lib.hid T2.out.2.2.2
  have HA := Lib.hid ha
  have HMA := Lib.hid hma
  have SZ := Lib.hid (l_szSpaceN a0 a1 a2 c0 c1 c2 I B E 1048576 W0 hI hB hE (ha.below HB0.out) (by omega) (by omega))
  have SM := Lib.hid (fun (l : Int) (W : World) h0 h1 => l_szMachine m aS aO cS cO l W hmS hmO h0 h1)
  have TM := Lib.hid (fun (W : World) (hb : Below w.heap.size w W) h1 h2 => l_toMachine m aS aO cS cO W (hma.below hb) h1 h2)
  have HE64 := Lib.hid hE64
  have HEB : Hid (∀ e ∈ E, e ≤ 9223372036854775807) := Lib.hid (fun e he => (hE64 e he).2)
  have HNM := Lib.hid hmn
  clear ha hma hE64 hmn
  obtain ⟨m0, hm0⟩ : ∃ x, m = x := ⟨_, rfl⟩
  have HM0 := Lib.hid hm0
  obtain ⟨pc, sp, fp, st, out, stt, val⟩ := m
  unfold mcRow at T2 hW0
  unfold mcA mcRow at SM
  unfold MaRes mcA mcRow at TM
  unfold mcA mcRow
  dsimp only at T2 hW0 SM TM hmS hmO ⊢
  obtain ⟨sn, hsn⟩ : ∃ x, st.length = x := ⟨_, rfl⟩
  obtain ⟨on, hon⟩ : ∃ x, out.length = x := ⟨_, rfl⟩
  rw [hsn] at T2 hW0 SM TM hmS ⊢
  rw [hon] at T2 hW0 SM TM hmO ⊢
  have HW0 := Lib.hid hW0
  have HSN := Lib.hid hsn
  have HON := Lib.hid hon
  have HZ0 : Hid (w.heap.size + 2 ≤ W0.heap.size) := Lib.hid (by have := T2.out.2.2.1; omega)
  have BX0 : Hid (∀ W, Below W0.heap.size W0 W → W.heap[w.heap.size]? = some (.cells #[.slice a0 I.length c0, .slice a1 B.length c1, .slice a2 E.length c2] 25 (0, 0)) ∧ W.heap[w.heap.size + 1]? = some (.cells #[.int .i64 pc, .int .i64 sp, .int .i64 fp, .slice aS sn cS, .slice aO on cO, .int .i64 stt, .int .i64 val] 27 (0, 0)) ∧ Below w.heap.size w W) := Lib.hid (fun W hb => by
    obtain ⟨t0, t1, t2, t3⟩ := T2.out
    exact ⟨(hb.block _ (by omega)).trans t0, (hb.block _ (by omega)).trans t1, t3.trans (hb.mono (by omega))⟩)
  clear hW0 hm0 hsn hon T2
  go_enter Tryz.func4, Tryz.ntmps4
  go_upto_region 1 with fail
  rw [HW0.out]
  clear HW0
  have hq := (BX0.out _ (Below.refl _ _)).1
  obtain ⟨e0, e1, e2⟩ := cells3s hq
  clear hq
  go_wp2_with fail
  refine SZ.out.mono ?_
  rintro e w1 ⟨r, rfl, b1, hr⟩
  have D1 := Lib.hid b1
  clear b1 SZ e0 e1 e2
  rcases hr with rfl | ⟨hr0, hrs, hsI⟩
  · go_wp2
    go_ret
    exact ⟨rfl, (BX0.out _ D1.out).2.2⟩
  have HSI := Lib.hid hsI
  have HRS := Lib.hid hrs
  have hr1 : r ≤ 1048576 := by omega
  have SM1 := Lib.hid (SM.out r w1 hr0 hr1)
  have hd : decide (r < 0) = false := by simp; omega
  clear hsI hrs SM hmS hmO
  have hq := (BX0.out _ D1.out).2.1
  obtain ⟨⟨q0, q1, q2, q3, q4, q5, q6⟩, _, _⟩ := res7 hq
  clear hq
  go_wp2_with fail
  refine SM1.out.mono ?_
  rintro e w2 ⟨r2, rfl, b2, hr2⟩
  have D2 : Hid (Below W0.heap.size W0 w2) := Lib.hid (D1.out.trans (b2.mono D1.out.size))
  clear b2 SM1 q0 q1 q2 q3 q4 q5 q6 D1 hd
  rcases hr2 with rfl | ⟨hr20, hr2s⟩
  · go_wp2
    go_ret
    exact ⟨rfl, (BX0.out _ D2.out).2.2⟩
  have hd : decide (r2 < 0) = false := by simp; omega
  have q1 : sn ≤ 1048576 := by omega
  have q2 : on ≤ 1048576 := by omega
  clear hr2s
  have q3 : I.length ≤ 1048576 := by have := HRS.out; omega
  have q4 : B.length ≤ 1048576 := by have := HRS.out; omega
  have q5 : E.length ≤ 1048576 := by have := HRS.out; omega
  have TA := Lib.hid (fun (W : World) (hb : Below w.heap.size w W) => l_toSpace a0 a1 a2 c0 c1 c2 I B E W q3 q4 q5 (HA.out.below hb) HSI.out)
  obtain ⟨ps, hps⟩ : ∃ x, psI I = x := ⟨_, rfl⟩
  have SML : Hid (∀ X : List ImA, psI X = ps → SmlI X B E) := Lib.hid (fun X hX => by
    have hX' := hX.trans hps.symm
    have hl : X.length = I.length := by have h := congrArg List.length hX'; rwa [psI_len, psI_len] at h
    exact ⟨by omega, q4, q5, psI_small hX' HSI.out, HEB.out⟩)
  have SML2 : Hid (∀ X : List ImA, psI X = ps → X.length ≤ 1048576 ∧ X.length + sumI X ≤ 1048576 ∧ ∀ x ∈ X, x.l.length ≤ 1048576) := Lib.hid (fun X hX => by
    have hX' := hX.trans hps.symm
    have hl : X.length = I.length := by have h := congrArg List.length hX'; rwa [psI_len, psI_len] at h
    have hsm := psI_small hX' HSI.out
    exact ⟨by omega, by have := HRS.out; rw [hl, sumI_ps hX']; omega, fun x hx => (hsm x hx).2.1⟩)
  rw [hps] at TA
  clear hps
  obtain ⟨R, hRR⟩ : ∃ x, runZ (canI ps) B E ⟨pc, sp, fp, st, out, stt, val⟩ lim = x := ⟨_, rfl⟩
  have SMC : Hid (∀ (X : List ImA) (x0 x1 x2 : Option Addr) (y0 y1 y2 : Nat) (z1 z2 : Option Addr) (s1 s2 : Nat) (W : World), psI X = ps → ReadSp W x0 X x1 B x2 E → W.ownsRow 0 3 1 (.slice z1 sn s1) sn (intV st) → W.ownsRow 0 3 1 (.slice z2 on s2) on (intV out) → Calls Tryz.prog 16 #[.agg #[.slice x0 X.length y0, .slice x1 B.length y1, .slice x2 E.length y2], .agg #[.int .i64 pc, .int .i64 sp, .int .i64 fp, .slice z1 sn s1, .slice z2 on s2, .int .i64 stt, .int .i64 val], .int .i64 lim] W (RunRM R W)) := Lib.hid (fun X x0 x1 x2 y0 y1 y2 z1 z2 s1 s2 W hX hR o1 o2 => by
    have h := s_runMachine X B E x0 x1 x2 y0 y1 y2 ⟨pc, sp, fp, st, out, stt, val⟩ z1 z2 s1 s2 W hR.1 hR.2.1 hR.2.2 (SML.out X hX) HE64.out ⟨HNM.out.ws, HNM.out.pc, HNM.out.sp, HNM.out.fp⟩ (by dsimp only; rw [HSN.out]; exact o1) (by dsimp only; rw [HON.out]; exact o2) (by dsimp only; rw [HSN.out]; omega) (by dsimp only; rw [HON.out]; omega) lim
    rw [runZ_can, hX, hRR] at h
    unfold RunRM mcA mcRow at h
    unfold RunRM mcA mcRow
    try dsimp only at h
    rw [show st.length = sn from HSN.out, show out.length = on from HON.out] at h
    exact h)
  have NMC : Hid (∀ (X : List ImA) (x0 x1 x2 : Option Addr) (y0 y1 y2 : Nat) (z1 z2 : Option Addr) (s1 s2 : Nat) (W : World), psI X = ps → ReadSp W x0 X x1 B x2 E → W.ownsRow 0 3 1 (.slice z1 sn s1) sn (intV st) → W.ownsRow 0 3 1 (.slice z2 on s2) on (intV out) → Calls Tryz.prog 17 #[.agg #[.slice x0 X.length y0, .slice x1 B.length y1, .slice x2 E.length y2], .agg #[.int .i64 pc, .int .i64 sp, .int .i64 fp, .slice z1 sn s1, .slice z2 on s2, .int .i64 stt, .int .i64 val], .int .i64 lim] W (RunRM R W)) := Lib.hid (fun X x0 x1 x2 y0 y1 y2 z1 z2 s1 s2 W hX hR o1 o2 => by
    have h := i_runMachine X B E x0 x1 x2 y0 y1 y2 ⟨pc, sp, fp, st, out, stt, val⟩ (.slice z1 sn s1) (.slice z2 on s2) W hR.1 hR.2.1 hR.2.2 (SML.out X hX) HE64.out ⟨HNM.out.ws, HNM.out.pc, HNM.out.sp, HNM.out.fp⟩ (by dsimp only; rw [HSN.out]; exact o1) (by dsimp only; rw [HON.out]; exact o2) (by dsimp only; rw [HSN.out]; omega) (by dsimp only; rw [HON.out]; omega) lim
    rw [runZ_can, hX, hRR] at h
    unfold RunRM mcA mcRow at h
    unfold RunRM mcA mcRow
    try dsimp only at h
    exact h)
  have HRL : Hid (R.1.st.length ≤ 1048576 ∧ R.1.out.length ≤ 1068576) := Lib.hid (by
    rw [← hRR]
    have h := runZ_len (canI ps) B E ⟨pc, sp, fp, st, out, stt, val⟩ lim HE64.out ⟨HNM.out.ws, HNM.out.pc, HNM.out.sp, HNM.out.fp⟩
    dsimp only at h
    rw [HSN.out, HON.out] at h
    omega)
  clear hRR
  have EA := Lib.hid (fun (a0 a1 b0 b1 : Option Addr) (c0 c1 d0 d1 : Nat) (W : World) h1 h2 h3 h4 => l_eqMachine R.1 a0 a1 b0 b1 c0 c1 d0 d1 W h1 h2 h3 h4 (by have := HRL.out; omega) (by have := HRL.out; omega))
  have EM : Hid (∀ (a0 a1 b0 b1 : Option Addr) (c0 c1 d0 d1 : Nat) (W : World), ReadI W a0 st → ReadI W a1 out → ReadI W b0 st → ReadI W b1 out → Calls Tryz.prog 11 #[.agg #[.int .i64 pc, .int .i64 sp, .int .i64 fp, .slice a0 sn c0, .slice a1 on c1, .int .i64 stt, .int .i64 val], .agg #[.int .i64 pc, .int .i64 sp, .int .i64 fp, .slice b0 sn d0, .slice b1 on d1, .int .i64 stt, .int .i64 val]] W fun e w' => e = .returned (.bool true) ∧ Below W.heap.size W w') := Lib.hid (fun a0 a1 b0 b1 c0 c1 d0 d1 W h1 h2 h3 h4 => by
    have h := l_eqMachine ⟨pc, sp, fp, st, out, stt, val⟩ a0 a1 b0 b1 c0 c1 d0 d1 W h1 h2 h3 h4 (by dsimp only; rw [HSN.out]; omega) (by dsimp only; rw [HON.out]; omega)
    unfold mcA mcRow at h
    dsimp only at h
    rw [HSN.out, HON.out] at h
    exact h)
  have MK := Lib.hid (fun (a0 a1 : Option Addr) (c0 c1 B hi : Nat) (W : World) O1 O2 hap hB hh g1 g2 => l_markMachine R.1 a0 a1 c0 c1 1 B hi W O1 O2 hap hB hh g1 g2 (by have := HRL.out; omega) (by have := HRL.out; omega) (by have := HRL.out; omega))
  have HM := Lib.hid (fun (a0 a1 : Option Addr) (c0 c1 : Nat) (W : World) r1 r2 => l_heldMachine R.1 a0 a1 c0 c1 1 W r1 r2 (by have := HRL.out; omega) (by have := HRL.out; omega) (by have := HRL.out; omega))
  have eone : ((1 : Nat) : Int) = 1 := rfl
  rw [eone] at MK HM
  clear eone
  obtain ⟨⟨rpc, rsp, rfp, rst, rout, rstt, rval⟩, rk0⟩ := R
  obtain ⟨rk, hrk⟩ : ∃ x : Int, (rk0 : Int) = x := ⟨_, rfl⟩
  unfold RunRM mcA mcRow at NMC SMC
  unfold mcA mcRow at EA MK HM
  dsimp only at NMC SMC EA MK HM
  rw [hrk] at NMC SMC
  clear hrk
  have SHOW : Hid (∀ W, Below W0.heap.size W0 W → (fun w' => (w'.cell? ⟨w.heap.size, 0, none⟩ = some (.slice a0 I.length c0) ∧ w'.cell? ⟨w.heap.size, 1, none⟩ = some (.slice a1 B.length c1) ∧ w'.cell? ⟨w.heap.size, 2, none⟩ = some (.slice a2 E.length c2)) ∧ (w'.cell? ⟨w.heap.size + 1, 0, none⟩ = some (.int .i64 pc) ∧ w'.cell? ⟨w.heap.size + 1, 1, none⟩ = some (.int .i64 sp) ∧ w'.cell? ⟨w.heap.size + 1, 2, none⟩ = some (.int .i64 fp) ∧ w'.cell? ⟨w.heap.size + 1, 3, none⟩ = some (.slice aS sn cS) ∧ w'.cell? ⟨w.heap.size + 1, 4, none⟩ = some (.slice aO on cO) ∧ w'.cell? ⟨w.heap.size + 1, 5, none⟩ = some (.int .i64 stt) ∧ w'.cell? ⟨w.heap.size + 1, 6, none⟩ = some (.int .i64 val))) W) := Lib.hid (fun W hb => by
    obtain ⟨t0, t1, _⟩ := BX0.out W hb
    exact ⟨cells3s t0, (res7 t1).1⟩)
  go_upto_region 8 with fail
  go_cut [8, 9] (fun s s9 wx => s9 = .int .i64 rk ∧ ∃ (nb : Nat) (u1 u2 : Option Addr) (t1 t2 : Nat), s = .pointer (some ⟨nb, 0, none⟩) ∧ Hid (wx.heap[nb]? = some (.cells #[.int .i64 rpc, .int .i64 rsp, .int .i64 rfp, .slice u1 rst.length t1, .slice u2 rout.length t2, .int .i64 rstt, .int .i64 rval] 30 (0, 0))) ∧ Hid (Below W0.heap.size W0 wx) ∧ Hid (ReadI wx u1 rst) ∧ Hid (ReadI wx u2 rout) ∧ W0.heap.size ≤ nb)
  case first =>
    have DD : Hid (Below W0.heap.size W0 w2.drew) := Lib.hid (D2.out.drew)
    refine E_start (S := (fun w' => (w'.cell? ⟨w.heap.size, 0, none⟩ = some (.slice a0 I.length c0) ∧ w'.cell? ⟨w.heap.size, 1, none⟩ = some (.slice a1 B.length c1) ∧ w'.cell? ⟨w.heap.size, 2, none⟩ = some (.slice a2 E.length c2)) ∧ (w'.cell? ⟨w.heap.size + 1, 0, none⟩ = some (.int .i64 pc) ∧ w'.cell? ⟨w.heap.size + 1, 1, none⟩ = some (.int .i64 sp) ∧ w'.cell? ⟨w.heap.size + 1, 2, none⟩ = some (.int .i64 fp) ∧ w'.cell? ⟨w.heap.size + 1, 3, none⟩ = some (.slice aS sn cS) ∧ w'.cell? ⟨w.heap.size + 1, 4, none⟩ = some (.slice aO on cO) ∧ w'.cell? ⟨w.heap.size + 1, 5, none⟩ = some (.int .i64 stt) ∧ w'.cell? ⟨w.heap.size + 1, 6, none⟩ = some (.int .i64 val)))) 11 (by kernel_rfl) (SHOW.out _ DD.out) (fun hHeld => ?_)
    refine E_take (i := 0) (oi := _) (v := ?_) rfl (by kernel_rfl) (fun _ _ _ h => h) ?_ (by assumption) ?_
    rotate_left 1
    · (refine Or.inl ⟨by rfl, ?_⟩; intro w hSw; (try dsimp only at hSw); (try simp only [List.getElem_toArray, List.getElem_cons_zero, List.getElem_cons_succ]); go_simp; (first | done | with_reducible rfl))
    try simp only [Act.put, List.setIfInBounds_toArray, List.set_cons_zero, List.set_cons_succ, List.getElem_toArray, List.getElem_cons_zero, List.getElem_cons_succ]
    refine E_take (i := 2) (oi := _) (v := ?_) rfl (by kernel_rfl) (fun _ _ _ h => h) ?_ (by assumption) ?_
    rotate_left 1
    · (refine Or.inl ⟨by rfl, ?_⟩; intro w hSw; (try dsimp only at hSw); (try simp only [List.getElem_toArray, List.getElem_cons_zero, List.getElem_cons_succ]); go_simp; (first | done | with_reducible rfl))
    try simp only [Act.put, List.setIfInBounds_toArray, List.set_cons_zero, List.set_cons_succ, List.getElem_toArray, List.getElem_cons_zero, List.getElem_cons_succ]
    refine E_take (i := 4) (oi := _) (v := ?_) rfl (by kernel_rfl) (fun _ _ _ h => h) ?_ (by assumption) ?_
    rotate_left 1
    · (refine Or.inl ⟨by rfl, ?_⟩; intro w hSw; (try dsimp only at hSw); (try simp only [List.getElem_toArray, List.getElem_cons_zero, List.getElem_cons_succ]); go_simp; (first | done | with_reducible rfl))
    try simp only [Act.put, List.setIfInBounds_toArray, List.set_cons_zero, List.set_cons_succ, List.getElem_toArray, List.getElem_cons_zero, List.getElem_cons_succ]
    refine E_ready (rs := [1, 9]) (by kernel_rfl) (by decide) ?_
    refine AllE.cons (o := _) rfl (fun K hK => ?_) (AllE.cons (o := _) rfl (fun K hK => ?_) AllE.nil)
    · try simp only [List.getElem_toArray, List.getElem_cons_zero, List.getElem_cons_succ]
      go_simp
      refine (TA.out _ ((BX0.out _ DD.out).2.2)).mono ?_
      rintro e w3 ⟨v0, X, v1, v2, rfl, O0, M0, p0, O1, O2, bb⟩
      obtain ⟨x0, y0, rfl⟩ := owns3_shape O0
      obtain ⟨x1, y1, rfl⟩ := owns_shape O1
      obtain ⟨x2, y2, rfl⟩ := owns_shape O2
      have RS := Lib.hid (readSp_of O0 M0 O1 O2)
      have HPX := Lib.hid p0
      clear O0 M0 O1 O2 p0
      replace DD : Hid (Below W0.heap.size W0 w3) := Lib.hid (DD.out.trans ((Below.refl _ (w2.drew)).trans (bb.mono DD.out.size)))
      clear bb
      go_wp2_with fail
      refine hK.out _ _ (SHOW.out _ DD.out) (fun hHeld => ?_)
      clear hK K
      try simp only [Act.put, List.setIfInBounds_toArray, List.set_cons_zero, List.set_cons_succ, List.getElem_toArray, List.getElem_cons_zero, List.getElem_cons_succ]
      refine E_ready (rs := [3, 9]) (by kernel_rfl) (by decide) ?_
      refine AllE.cons (o := _) rfl (fun K hK => ?_) (AllE.cons (o := _) rfl (fun K hK => ?_) AllE.nil)
      · try simp only [List.getElem_toArray, List.getElem_cons_zero, List.getElem_cons_succ]
        go_simp
        refine (TM.out _ ((BX0.out _ DD.out).2.2) q1 q2).mono ?_
        rintro e w4 ⟨v1, v2, rfl, O1, O2, _, bb⟩
        obtain ⟨z1, s1, rfl⟩ := owns_shape O1
        obtain ⟨z2, s2, rfl⟩ := owns_shape O2
        have MO1 := Lib.hid (owns_lo O1 (Nat.zero_le _))
        have MO2 := Lib.hid (owns_lo O2 (Nat.zero_le _))
        clear O1 O2
        replace RS := Lib.hid (RS.out.below (bb))
        replace DD : Hid (Below W0.heap.size W0 w4) := Lib.hid (DD.out.trans ((Below.refl _ (w3)).trans (bb.mono DD.out.size)))
        clear bb
        go_wp2_with fail
        refine hK.out _ _ (SHOW.out _ DD.out) (fun hHeld => ?_)
        clear hK K
        try simp only [Act.put, List.setIfInBounds_toArray, List.set_cons_zero, List.set_cons_succ, List.getElem_toArray, List.getElem_cons_zero, List.getElem_cons_succ]
        refine E_ready (rs := [5, 9]) (by kernel_rfl) (by decide) ?_
        refine AllE.cons (o := _) rfl (fun K hK => ?_) (AllE.cons (o := _) rfl (fun K hK => ?_) AllE.nil)
        · try simp only [List.getElem_toArray, List.getElem_cons_zero, List.getElem_cons_succ]
          go_simp
          refine (SMC.out X x0 x1 x2 y0 y1 y2 z1 z2 s1 s2 _ HPX.out RS.out MO1.out MO2.out).mono ?_
          rintro e w5 ⟨v1, v2, rfl, O1, O2, _, bb⟩
          obtain ⟨u1, t1, rfl⟩ := owns_shape O1
          obtain ⟨u2, t2, rfl⟩ := owns_shape O2
          have XO1 := Lib.hid (owns_lo O1 (Nat.zero_le _))
          have XO2 := Lib.hid (owns_lo O2 (Nat.zero_le _))
          clear O1 O2
          replace DD : Hid (Below W0.heap.size W0 w5) := Lib.hid (DD.out.trans ((Below.refl _ (w4)).trans (bb.mono DD.out.size)))
          clear bb
          go_wp2_with fail
          refine hK.out _ _ (SHOW.out _ DD.out) (fun hHeld => ?_)
          clear hK K
          try simp only [Act.put, List.setIfInBounds_toArray, List.set_cons_zero, List.set_cons_succ, List.getElem_toArray, List.getElem_cons_zero, List.getElem_cons_succ]
          refine E_take (i := 6) (oi := _) (v := ?_) rfl (by kernel_rfl) (fun _ _ _ h => h) ?_ (by assumption) ?_
          rotate_left 1
          · (refine Or.inl ⟨by rfl, ?_⟩; intro w hSw; (try dsimp only at hSw); (try simp only [List.getElem_toArray, List.getElem_cons_zero, List.getElem_cons_succ]); go_simp; (first | done | with_reducible rfl))
          try simp only [Act.put, List.setIfInBounds_toArray, List.set_cons_zero, List.set_cons_succ, List.getElem_toArray, List.getElem_cons_zero, List.getElem_cons_succ]
          refine E_take (i := 7) (oi := _) (v := ?_) rfl (by kernel_rfl) (fun _ _ _ h => h) ?_ (by assumption) ?_
          rotate_left 1
          · (refine Or.inl ⟨by rfl, ?_⟩; intro w hSw; (try dsimp only at hSw); (try simp only [List.getElem_toArray, List.getElem_cons_zero, List.getElem_cons_succ]); go_simp; (first | done | with_reducible rfl))
          try simp only [Act.put, List.setIfInBounds_toArray, List.set_cons_zero, List.set_cons_succ, List.getElem_toArray, List.getElem_cons_zero, List.getElem_cons_succ]
          refine E_take (i := 8) (oi := _) (v := ?_) rfl (by kernel_rfl) (fun _ _ _ h => h) ?_ (by assumption) ?_
          rotate_left 1
          · (refine Or.inl ⟨by rfl, ?_⟩; intro w hSw; (try dsimp only at hSw); (try simp only [List.getElem_toArray, List.getElem_cons_zero, List.getElem_cons_succ]); go_simp; (first | done | with_reducible rfl))
          try simp only [Act.put, List.setIfInBounds_toArray, List.set_cons_zero, List.set_cons_succ, List.getElem_toArray, List.getElem_cons_zero, List.getElem_cons_succ]
          refine E_ready (rs := [9]) (by kernel_rfl) (by decide) ?_
          refine AllE.cons (o := _) rfl (fun K hK => ?_) AllE.nil
          try simp only [List.getElem_toArray, List.getElem_cons_zero, List.getElem_cons_succ]
          go_simp
          have BA := Lib.hid ((Below.refl _ (w5)).alloc (Nat.le_refl _) (.cells #[.int .i64 0, .int .i64 0, .int .i64 0, .slice none 0 0, .slice none 0 0, .int .i64 0, .int .i64 0] 30))
          have QB := Lib.hid (heap_alloc_new (w5) (.cells #[.int .i64 0, .int .i64 0, .int .i64 0, .slice none 0 0, .slice none 0 0, .int .i64 0, .int .i64 0] 30))
          have HZB : Hid (W0.heap.size ≤ (w5).heap.size) := Lib.hid DD.out.size
          replace DD := Lib.hid (DD.out.alloc DD.out.size (.cells #[.int .i64 0, .int .i64 0, .int .i64 0, .slice none 0 0, .slice none 0 0, .int .i64 0, .int .i64 0] 30))
          replace XO1 := Lib.hid (owns_below XO1.out BA.out)
          replace XO2 := Lib.hid (owns_below XO2.out BA.out)
          obtain ⟨nb, hnb⟩ : ∃ k, (w5).heap.size = k := ⟨_, rfl⟩
          have HNB := Lib.hid hnb
          rw [hnb] at QB HZB
          obtain ⟨WA, hWA⟩ : ∃ W, (w5).alloc (.cells #[.int .i64 0, .int .i64 0, .int .i64 0, .slice none 0 0, .slice none 0 0, .int .i64 0, .int .i64 0] 30) = W := ⟨_, rfl⟩
          rw [hWA] at BA QB DD XO1 XO2
          first | rw [hWA] | skip
          first | rw [hnb] | skip
          clear hnb hWA BA HNB
          refine hK.out _ _ (SHOW.out _ DD.out) (fun hHeld => ?_)
          clear hK K
          try simp only [Act.put, List.setIfInBounds_toArray, List.set_cons_zero, List.set_cons_succ, List.getElem_toArray, List.getElem_cons_zero, List.getElem_cons_succ]
          obtain ⟨⟨j0, j1, j2, j3, j4, j5, j6⟩, gj, lj⟩ := res7 QB.out
          refine E_ready (rs := [10]) (by kernel_rfl) (by decide) ?_
          refine AllE.cons (o := _) rfl (fun K hK => ?_) AllE.nil
          try simp only [List.getElem_toArray, List.getElem_cons_zero, List.getElem_cons_succ]
          go_simp
          have QF := Lib.hid (set7_rowS QB.out (.int .i64 rpc) (.int .i64 rsp) (.int .i64 rfp) (.slice u1 rst.length t1) (.slice u2 rout.length t2) (.int .i64 rstt) (.int .i64 rval))
          have BF := Lib.hid (set7_belowS (b := nb) DD.out HZB.out (.int .i64 rpc) (.int .i64 rsp) (.int .i64 rfp) (.slice u1 rst.length t1) (.slice u2 rout.length t2) (.int .i64 rstt) (.int .i64 rval))
          have XF1 := Lib.hid (readI_of (own7s (v0 := .int .i64 rpc) (v1 := .int .i64 rsp) (v2 := .int .i64 rfp) (v3 := .slice u1 rst.length t1) (v4 := .slice u2 rout.length t2) (v5 := .int .i64 rstt) (v6 := .int .i64 rval) XO1.out (ne_types XO1.out QB.out (by decide))))
          have XF2 := Lib.hid (readI_of (own7s (v0 := .int .i64 rpc) (v1 := .int .i64 rsp) (v2 := .int .i64 rfp) (v3 := .slice u1 rst.length t1) (v4 := .slice u2 rout.length t2) (v5 := .int .i64 rstt) (v6 := .int .i64 rval) XO2.out (ne_types XO2.out QB.out (by decide))))
          refine hK.out _ _ (SHOW.out _ BF.out) (fun hHeld => ?_)
          clear hK K
          try simp only [Act.put, List.setIfInBounds_toArray, List.set_cons_zero, List.set_cons_succ, List.getElem_toArray, List.getElem_cons_zero, List.getElem_cons_succ]
          refine E_last (o := _) (by kernel_rfl) rfl (by kernel_rfl) (fun K hK => ?_)
          try simp only [List.getElem_toArray, List.getElem_cons_zero, List.getElem_cons_succ]
          go_simp
          refine hK.out _ _ ?_
          clear hK K
          go_wp2
          go_meet
          exact ⟨rfl, nb, u1, u2, t1, t2, rfl, QF, BF, XF1, XF2, HZB.out⟩
        · try simp only [List.getElem_toArray, List.getElem_cons_zero, List.getElem_cons_succ]
          go_simp
          have BA := Lib.hid ((Below.refl _ (w4)).alloc (Nat.le_refl _) (.cells #[.int .i64 0, .int .i64 0, .int .i64 0, .slice none 0 0, .slice none 0 0, .int .i64 0, .int .i64 0] 30))
          have QB := Lib.hid (heap_alloc_new (w4) (.cells #[.int .i64 0, .int .i64 0, .int .i64 0, .slice none 0 0, .slice none 0 0, .int .i64 0, .int .i64 0] 30))
          have HZB : Hid (W0.heap.size ≤ (w4).heap.size) := Lib.hid DD.out.size
          replace DD := Lib.hid (DD.out.alloc DD.out.size (.cells #[.int .i64 0, .int .i64 0, .int .i64 0, .slice none 0 0, .slice none 0 0, .int .i64 0, .int .i64 0] 30))
          replace RS := Lib.hid (RS.out.below BA.out)
          replace MO1 := Lib.hid (owns_below MO1.out BA.out)
          replace MO2 := Lib.hid (owns_below MO2.out BA.out)
          obtain ⟨nb, hnb⟩ : ∃ k, (w4).heap.size = k := ⟨_, rfl⟩
          have HNB := Lib.hid hnb
          rw [hnb] at QB HZB
          obtain ⟨WA, hWA⟩ : ∃ W, (w4).alloc (.cells #[.int .i64 0, .int .i64 0, .int .i64 0, .slice none 0 0, .slice none 0 0, .int .i64 0, .int .i64 0] 30) = W := ⟨_, rfl⟩
          rw [hWA] at BA QB DD RS MO1 MO2
          first | rw [hWA] | skip
          first | rw [hnb] | skip
          clear hnb hWA BA HNB
          refine hK.out _ _ (SHOW.out _ DD.out) (fun hHeld => ?_)
          clear hK K
          try simp only [Act.put, List.setIfInBounds_toArray, List.set_cons_zero, List.set_cons_succ, List.getElem_toArray, List.getElem_cons_zero, List.getElem_cons_succ]
          refine E_ready (rs := [5]) (by kernel_rfl) (by decide) ?_
          refine AllE.cons (o := _) rfl (fun K hK => ?_) AllE.nil
          try simp only [List.getElem_toArray, List.getElem_cons_zero, List.getElem_cons_succ]
          go_simp
          refine (SMC.out X x0 x1 x2 y0 y1 y2 z1 z2 s1 s2 _ HPX.out RS.out MO1.out MO2.out).mono ?_
          rintro e w5 ⟨v1, v2, rfl, O1, O2, _, bb⟩
          obtain ⟨u1, t1, rfl⟩ := owns_shape O1
          obtain ⟨u2, t2, rfl⟩ := owns_shape O2
          have XO1 := Lib.hid (owns_lo O1 (Nat.zero_le _))
          have XO2 := Lib.hid (owns_lo O2 (Nat.zero_le _))
          clear O1 O2
          replace DD : Hid (Below W0.heap.size W0 w5) := Lib.hid (DD.out.trans ((Below.refl _ (WA)).trans (bb.mono DD.out.size)))
          replace QB := Lib.hid ((bb.block _ (blk QB.out).2.2).trans QB.out)
          clear bb
          go_wp2_with fail
          refine hK.out _ _ (SHOW.out _ DD.out) (fun hHeld => ?_)
          clear hK K
          try simp only [Act.put, List.setIfInBounds_toArray, List.set_cons_zero, List.set_cons_succ, List.getElem_toArray, List.getElem_cons_zero, List.getElem_cons_succ]
          refine E_take (i := 6) (oi := _) (v := ?_) rfl (by kernel_rfl) (fun _ _ _ h => h) ?_ (by assumption) ?_
          rotate_left 1
          · (refine Or.inl ⟨by rfl, ?_⟩; intro w hSw; (try dsimp only at hSw); (try simp only [List.getElem_toArray, List.getElem_cons_zero, List.getElem_cons_succ]); go_simp; (first | done | with_reducible rfl))
          try simp only [Act.put, List.setIfInBounds_toArray, List.set_cons_zero, List.set_cons_succ, List.getElem_toArray, List.getElem_cons_zero, List.getElem_cons_succ]
          refine E_take (i := 7) (oi := _) (v := ?_) rfl (by kernel_rfl) (fun _ _ _ h => h) ?_ (by assumption) ?_
          rotate_left 1
          · (refine Or.inl ⟨by rfl, ?_⟩; intro w hSw; (try dsimp only at hSw); (try simp only [List.getElem_toArray, List.getElem_cons_zero, List.getElem_cons_succ]); go_simp; (first | done | with_reducible rfl))
          try simp only [Act.put, List.setIfInBounds_toArray, List.set_cons_zero, List.set_cons_succ, List.getElem_toArray, List.getElem_cons_zero, List.getElem_cons_succ]
          refine E_take (i := 8) (oi := _) (v := ?_) rfl (by kernel_rfl) (fun _ _ _ h => h) ?_ (by assumption) ?_
          rotate_left 1
          · (refine Or.inl ⟨by rfl, ?_⟩; intro w hSw; (try dsimp only at hSw); (try simp only [List.getElem_toArray, List.getElem_cons_zero, List.getElem_cons_succ]); go_simp; (first | done | with_reducible rfl))
          try simp only [Act.put, List.setIfInBounds_toArray, List.set_cons_zero, List.set_cons_succ, List.getElem_toArray, List.getElem_cons_zero, List.getElem_cons_succ]
          obtain ⟨⟨j0, j1, j2, j3, j4, j5, j6⟩, gj, lj⟩ := res7 QB.out
          refine E_ready (rs := [10]) (by kernel_rfl) (by decide) ?_
          refine AllE.cons (o := _) rfl (fun K hK => ?_) AllE.nil
          try simp only [List.getElem_toArray, List.getElem_cons_zero, List.getElem_cons_succ]
          go_simp
          have QF := Lib.hid (set7_rowS QB.out (.int .i64 rpc) (.int .i64 rsp) (.int .i64 rfp) (.slice u1 rst.length t1) (.slice u2 rout.length t2) (.int .i64 rstt) (.int .i64 rval))
          have BF := Lib.hid (set7_belowS (b := nb) DD.out HZB.out (.int .i64 rpc) (.int .i64 rsp) (.int .i64 rfp) (.slice u1 rst.length t1) (.slice u2 rout.length t2) (.int .i64 rstt) (.int .i64 rval))
          have XF1 := Lib.hid (readI_of (own7s (v0 := .int .i64 rpc) (v1 := .int .i64 rsp) (v2 := .int .i64 rfp) (v3 := .slice u1 rst.length t1) (v4 := .slice u2 rout.length t2) (v5 := .int .i64 rstt) (v6 := .int .i64 rval) XO1.out (ne_types XO1.out QB.out (by decide))))
          have XF2 := Lib.hid (readI_of (own7s (v0 := .int .i64 rpc) (v1 := .int .i64 rsp) (v2 := .int .i64 rfp) (v3 := .slice u1 rst.length t1) (v4 := .slice u2 rout.length t2) (v5 := .int .i64 rstt) (v6 := .int .i64 rval) XO2.out (ne_types XO2.out QB.out (by decide))))
          refine hK.out _ _ (SHOW.out _ BF.out) (fun hHeld => ?_)
          clear hK K
          try simp only [Act.put, List.setIfInBounds_toArray, List.set_cons_zero, List.set_cons_succ, List.getElem_toArray, List.getElem_cons_zero, List.getElem_cons_succ]
          refine E_last (o := _) (by kernel_rfl) rfl (by kernel_rfl) (fun K hK => ?_)
          try simp only [List.getElem_toArray, List.getElem_cons_zero, List.getElem_cons_succ]
          go_simp
          refine hK.out _ _ ?_
          clear hK K
          go_wp2
          go_meet
          exact ⟨rfl, nb, u1, u2, t1, t2, rfl, QF, BF, XF1, XF2, HZB.out⟩
      · try simp only [List.getElem_toArray, List.getElem_cons_zero, List.getElem_cons_succ]
        go_simp
        have BA := Lib.hid ((Below.refl _ (w3)).alloc (Nat.le_refl _) (.cells #[.int .i64 0, .int .i64 0, .int .i64 0, .slice none 0 0, .slice none 0 0, .int .i64 0, .int .i64 0] 30))
        have QB := Lib.hid (heap_alloc_new (w3) (.cells #[.int .i64 0, .int .i64 0, .int .i64 0, .slice none 0 0, .slice none 0 0, .int .i64 0, .int .i64 0] 30))
        have HZB : Hid (W0.heap.size ≤ (w3).heap.size) := Lib.hid DD.out.size
        replace DD := Lib.hid (DD.out.alloc DD.out.size (.cells #[.int .i64 0, .int .i64 0, .int .i64 0, .slice none 0 0, .slice none 0 0, .int .i64 0, .int .i64 0] 30))
        replace RS := Lib.hid (RS.out.below BA.out)
        obtain ⟨nb, hnb⟩ : ∃ k, (w3).heap.size = k := ⟨_, rfl⟩
        have HNB := Lib.hid hnb
        rw [hnb] at QB HZB
        obtain ⟨WA, hWA⟩ : ∃ W, (w3).alloc (.cells #[.int .i64 0, .int .i64 0, .int .i64 0, .slice none 0 0, .slice none 0 0, .int .i64 0, .int .i64 0] 30) = W := ⟨_, rfl⟩
        rw [hWA] at BA QB DD RS
        first | rw [hWA] | skip
        first | rw [hnb] | skip
        clear hnb hWA BA HNB
        refine hK.out _ _ (SHOW.out _ DD.out) (fun hHeld => ?_)
        clear hK K
        try simp only [Act.put, List.setIfInBounds_toArray, List.set_cons_zero, List.set_cons_succ, List.getElem_toArray, List.getElem_cons_zero, List.getElem_cons_succ]
        refine E_ready (rs := [3]) (by kernel_rfl) (by decide) ?_
        refine AllE.cons (o := _) rfl (fun K hK => ?_) AllE.nil
        try simp only [List.getElem_toArray, List.getElem_cons_zero, List.getElem_cons_succ]
        go_simp
        refine (TM.out _ ((BX0.out _ DD.out).2.2) q1 q2).mono ?_
        rintro e w4 ⟨v1, v2, rfl, O1, O2, _, bb⟩
        obtain ⟨z1, s1, rfl⟩ := owns_shape O1
        obtain ⟨z2, s2, rfl⟩ := owns_shape O2
        have MO1 := Lib.hid (owns_lo O1 (Nat.zero_le _))
        have MO2 := Lib.hid (owns_lo O2 (Nat.zero_le _))
        clear O1 O2
        replace RS := Lib.hid (RS.out.below (bb))
        replace DD : Hid (Below W0.heap.size W0 w4) := Lib.hid (DD.out.trans ((Below.refl _ (WA)).trans (bb.mono DD.out.size)))
        replace QB := Lib.hid ((bb.block _ (blk QB.out).2.2).trans QB.out)
        clear bb
        go_wp2_with fail
        refine hK.out _ _ (SHOW.out _ DD.out) (fun hHeld => ?_)
        clear hK K
        try simp only [Act.put, List.setIfInBounds_toArray, List.set_cons_zero, List.set_cons_succ, List.getElem_toArray, List.getElem_cons_zero, List.getElem_cons_succ]
        refine E_ready (rs := [5]) (by kernel_rfl) (by decide) ?_
        refine AllE.cons (o := _) rfl (fun K hK => ?_) AllE.nil
        try simp only [List.getElem_toArray, List.getElem_cons_zero, List.getElem_cons_succ]
        go_simp
        refine (SMC.out X x0 x1 x2 y0 y1 y2 z1 z2 s1 s2 _ HPX.out RS.out MO1.out MO2.out).mono ?_
        rintro e w5 ⟨v1, v2, rfl, O1, O2, _, bb⟩
        obtain ⟨u1, t1, rfl⟩ := owns_shape O1
        obtain ⟨u2, t2, rfl⟩ := owns_shape O2
        have XO1 := Lib.hid (owns_lo O1 (Nat.zero_le _))
        have XO2 := Lib.hid (owns_lo O2 (Nat.zero_le _))
        clear O1 O2
        replace DD : Hid (Below W0.heap.size W0 w5) := Lib.hid (DD.out.trans ((Below.refl _ (w4)).trans (bb.mono DD.out.size)))
        replace QB := Lib.hid ((bb.block _ (blk QB.out).2.2).trans QB.out)
        clear bb
        go_wp2_with fail
        refine hK.out _ _ (SHOW.out _ DD.out) (fun hHeld => ?_)
        clear hK K
        try simp only [Act.put, List.setIfInBounds_toArray, List.set_cons_zero, List.set_cons_succ, List.getElem_toArray, List.getElem_cons_zero, List.getElem_cons_succ]
        refine E_take (i := 6) (oi := _) (v := ?_) rfl (by kernel_rfl) (fun _ _ _ h => h) ?_ (by assumption) ?_
        rotate_left 1
        · (refine Or.inl ⟨by rfl, ?_⟩; intro w hSw; (try dsimp only at hSw); (try simp only [List.getElem_toArray, List.getElem_cons_zero, List.getElem_cons_succ]); go_simp; (first | done | with_reducible rfl))
        try simp only [Act.put, List.setIfInBounds_toArray, List.set_cons_zero, List.set_cons_succ, List.getElem_toArray, List.getElem_cons_zero, List.getElem_cons_succ]
        refine E_take (i := 7) (oi := _) (v := ?_) rfl (by kernel_rfl) (fun _ _ _ h => h) ?_ (by assumption) ?_
        rotate_left 1
        · (refine Or.inl ⟨by rfl, ?_⟩; intro w hSw; (try dsimp only at hSw); (try simp only [List.getElem_toArray, List.getElem_cons_zero, List.getElem_cons_succ]); go_simp; (first | done | with_reducible rfl))
        try simp only [Act.put, List.setIfInBounds_toArray, List.set_cons_zero, List.set_cons_succ, List.getElem_toArray, List.getElem_cons_zero, List.getElem_cons_succ]
        refine E_take (i := 8) (oi := _) (v := ?_) rfl (by kernel_rfl) (fun _ _ _ h => h) ?_ (by assumption) ?_
        rotate_left 1
        · (refine Or.inl ⟨by rfl, ?_⟩; intro w hSw; (try dsimp only at hSw); (try simp only [List.getElem_toArray, List.getElem_cons_zero, List.getElem_cons_succ]); go_simp; (first | done | with_reducible rfl))
        try simp only [Act.put, List.setIfInBounds_toArray, List.set_cons_zero, List.set_cons_succ, List.getElem_toArray, List.getElem_cons_zero, List.getElem_cons_succ]
        obtain ⟨⟨j0, j1, j2, j3, j4, j5, j6⟩, gj, lj⟩ := res7 QB.out
        refine E_ready (rs := [10]) (by kernel_rfl) (by decide) ?_
        refine AllE.cons (o := _) rfl (fun K hK => ?_) AllE.nil
        try simp only [List.getElem_toArray, List.getElem_cons_zero, List.getElem_cons_succ]
        go_simp
        have QF := Lib.hid (set7_rowS QB.out (.int .i64 rpc) (.int .i64 rsp) (.int .i64 rfp) (.slice u1 rst.length t1) (.slice u2 rout.length t2) (.int .i64 rstt) (.int .i64 rval))
        have BF := Lib.hid (set7_belowS (b := nb) DD.out HZB.out (.int .i64 rpc) (.int .i64 rsp) (.int .i64 rfp) (.slice u1 rst.length t1) (.slice u2 rout.length t2) (.int .i64 rstt) (.int .i64 rval))
        have XF1 := Lib.hid (readI_of (own7s (v0 := .int .i64 rpc) (v1 := .int .i64 rsp) (v2 := .int .i64 rfp) (v3 := .slice u1 rst.length t1) (v4 := .slice u2 rout.length t2) (v5 := .int .i64 rstt) (v6 := .int .i64 rval) XO1.out (ne_types XO1.out QB.out (by decide))))
        have XF2 := Lib.hid (readI_of (own7s (v0 := .int .i64 rpc) (v1 := .int .i64 rsp) (v2 := .int .i64 rfp) (v3 := .slice u1 rst.length t1) (v4 := .slice u2 rout.length t2) (v5 := .int .i64 rstt) (v6 := .int .i64 rval) XO2.out (ne_types XO2.out QB.out (by decide))))
        refine hK.out _ _ (SHOW.out _ BF.out) (fun hHeld => ?_)
        clear hK K
        try simp only [Act.put, List.setIfInBounds_toArray, List.set_cons_zero, List.set_cons_succ, List.getElem_toArray, List.getElem_cons_zero, List.getElem_cons_succ]
        refine E_last (o := _) (by kernel_rfl) rfl (by kernel_rfl) (fun K hK => ?_)
        try simp only [List.getElem_toArray, List.getElem_cons_zero, List.getElem_cons_succ]
        go_simp
        refine hK.out _ _ ?_
        clear hK K
        go_wp2
        go_meet
        exact ⟨rfl, nb, u1, u2, t1, t2, rfl, QF, BF, XF1, XF2, HZB.out⟩
    · try simp only [List.getElem_toArray, List.getElem_cons_zero, List.getElem_cons_succ]
      go_simp
      have QB : Hid ((w2.alloc (.cells #[.int .i64 0, .int .i64 0, .int .i64 0, .slice none 0 0, .slice none 0 0, .int .i64 0, .int .i64 0] 30)).drew.heap[w2.heap.size]? = some (.cells #[.int .i64 0, .int .i64 0, .int .i64 0, .slice none 0 0, .slice none 0 0, .int .i64 0, .int .i64 0] 30 (0, 0))) := Lib.hid (heap_alloc_new w2 _)
      replace DD := Lib.hid ((D2.out.alloc D2.out.size (.cells #[.int .i64 0, .int .i64 0, .int .i64 0, .slice none 0 0, .slice none 0 0, .int .i64 0, .int .i64 0] 30)).drew)
      obtain ⟨nb, hnb⟩ : ∃ k, w2.heap.size = k := ⟨_, rfl⟩
      have HZB : Hid (W0.heap.size ≤ nb) := Lib.hid (by rw [← hnb]; exact D2.out.size)
      rw [hnb] at QB
      obtain ⟨WA, hWA⟩ : ∃ W, (w2.alloc (.cells #[.int .i64 0, .int .i64 0, .int .i64 0, .slice none 0 0, .slice none 0 0, .int .i64 0, .int .i64 0] 30)).drew = W := ⟨_, rfl⟩
      rw [hWA] at QB DD
      first | rw [hWA] | skip
      first | rw [hnb] | skip
      clear hnb hWA
      refine hK.out _ _ (SHOW.out _ DD.out) (fun hHeld => ?_)
      clear hK K
      try simp only [Act.put, List.setIfInBounds_toArray, List.set_cons_zero, List.set_cons_succ, List.getElem_toArray, List.getElem_cons_zero, List.getElem_cons_succ]
      refine E_ready (rs := [1]) (by kernel_rfl) (by decide) ?_
      refine AllE.cons (o := _) rfl (fun K hK => ?_) AllE.nil
      try simp only [List.getElem_toArray, List.getElem_cons_zero, List.getElem_cons_succ]
      go_simp
      refine (TA.out _ ((BX0.out _ DD.out).2.2)).mono ?_
      rintro e w3 ⟨v0, X, v1, v2, rfl, O0, M0, p0, O1, O2, bb⟩
      obtain ⟨x0, y0, rfl⟩ := owns3_shape O0
      obtain ⟨x1, y1, rfl⟩ := owns_shape O1
      obtain ⟨x2, y2, rfl⟩ := owns_shape O2
      have RS := Lib.hid (readSp_of O0 M0 O1 O2)
      have HPX := Lib.hid p0
      clear O0 M0 O1 O2 p0
      replace DD : Hid (Below W0.heap.size W0 w3) := Lib.hid (DD.out.trans ((Below.refl _ (WA)).trans (bb.mono DD.out.size)))
      replace QB := Lib.hid ((bb.block _ (blk QB.out).2.2).trans QB.out)
      clear bb
      go_wp2_with fail
      refine hK.out _ _ (SHOW.out _ DD.out) (fun hHeld => ?_)
      clear hK K
      try simp only [Act.put, List.setIfInBounds_toArray, List.set_cons_zero, List.set_cons_succ, List.getElem_toArray, List.getElem_cons_zero, List.getElem_cons_succ]
      refine E_ready (rs := [3]) (by kernel_rfl) (by decide) ?_
      refine AllE.cons (o := _) rfl (fun K hK => ?_) AllE.nil
      try simp only [List.getElem_toArray, List.getElem_cons_zero, List.getElem_cons_succ]
      go_simp
      refine (TM.out _ ((BX0.out _ DD.out).2.2) q1 q2).mono ?_
      rintro e w4 ⟨v1, v2, rfl, O1, O2, _, bb⟩
      obtain ⟨z1, s1, rfl⟩ := owns_shape O1
      obtain ⟨z2, s2, rfl⟩ := owns_shape O2
      have MO1 := Lib.hid (owns_lo O1 (Nat.zero_le _))
      have MO2 := Lib.hid (owns_lo O2 (Nat.zero_le _))
      clear O1 O2
      replace RS := Lib.hid (RS.out.below (bb))
      replace DD : Hid (Below W0.heap.size W0 w4) := Lib.hid (DD.out.trans ((Below.refl _ (w3)).trans (bb.mono DD.out.size)))
      replace QB := Lib.hid ((bb.block _ (blk QB.out).2.2).trans QB.out)
      clear bb
      go_wp2_with fail
      refine hK.out _ _ (SHOW.out _ DD.out) (fun hHeld => ?_)
      clear hK K
      try simp only [Act.put, List.setIfInBounds_toArray, List.set_cons_zero, List.set_cons_succ, List.getElem_toArray, List.getElem_cons_zero, List.getElem_cons_succ]
      refine E_ready (rs := [5]) (by kernel_rfl) (by decide) ?_
      refine AllE.cons (o := _) rfl (fun K hK => ?_) AllE.nil
      try simp only [List.getElem_toArray, List.getElem_cons_zero, List.getElem_cons_succ]
      go_simp
      refine (SMC.out X x0 x1 x2 y0 y1 y2 z1 z2 s1 s2 _ HPX.out RS.out MO1.out MO2.out).mono ?_
      rintro e w5 ⟨v1, v2, rfl, O1, O2, _, bb⟩
      obtain ⟨u1, t1, rfl⟩ := owns_shape O1
      obtain ⟨u2, t2, rfl⟩ := owns_shape O2
      have XO1 := Lib.hid (owns_lo O1 (Nat.zero_le _))
      have XO2 := Lib.hid (owns_lo O2 (Nat.zero_le _))
      clear O1 O2
      replace DD : Hid (Below W0.heap.size W0 w5) := Lib.hid (DD.out.trans ((Below.refl _ (w4)).trans (bb.mono DD.out.size)))
      replace QB := Lib.hid ((bb.block _ (blk QB.out).2.2).trans QB.out)
      clear bb
      go_wp2_with fail
      refine hK.out _ _ (SHOW.out _ DD.out) (fun hHeld => ?_)
      clear hK K
      try simp only [Act.put, List.setIfInBounds_toArray, List.set_cons_zero, List.set_cons_succ, List.getElem_toArray, List.getElem_cons_zero, List.getElem_cons_succ]
      refine E_take (i := 6) (oi := _) (v := ?_) rfl (by kernel_rfl) (fun _ _ _ h => h) ?_ (by assumption) ?_
      rotate_left 1
      · (refine Or.inl ⟨by rfl, ?_⟩; intro w hSw; (try dsimp only at hSw); (try simp only [List.getElem_toArray, List.getElem_cons_zero, List.getElem_cons_succ]); go_simp; (first | done | with_reducible rfl))
      try simp only [Act.put, List.setIfInBounds_toArray, List.set_cons_zero, List.set_cons_succ, List.getElem_toArray, List.getElem_cons_zero, List.getElem_cons_succ]
      refine E_take (i := 7) (oi := _) (v := ?_) rfl (by kernel_rfl) (fun _ _ _ h => h) ?_ (by assumption) ?_
      rotate_left 1
      · (refine Or.inl ⟨by rfl, ?_⟩; intro w hSw; (try dsimp only at hSw); (try simp only [List.getElem_toArray, List.getElem_cons_zero, List.getElem_cons_succ]); go_simp; (first | done | with_reducible rfl))
      try simp only [Act.put, List.setIfInBounds_toArray, List.set_cons_zero, List.set_cons_succ, List.getElem_toArray, List.getElem_cons_zero, List.getElem_cons_succ]
      refine E_take (i := 8) (oi := _) (v := ?_) rfl (by kernel_rfl) (fun _ _ _ h => h) ?_ (by assumption) ?_
      rotate_left 1
      · (refine Or.inl ⟨by rfl, ?_⟩; intro w hSw; (try dsimp only at hSw); (try simp only [List.getElem_toArray, List.getElem_cons_zero, List.getElem_cons_succ]); go_simp; (first | done | with_reducible rfl))
      try simp only [Act.put, List.setIfInBounds_toArray, List.set_cons_zero, List.set_cons_succ, List.getElem_toArray, List.getElem_cons_zero, List.getElem_cons_succ]
      obtain ⟨⟨j0, j1, j2, j3, j4, j5, j6⟩, gj, lj⟩ := res7 QB.out
      refine E_ready (rs := [10]) (by kernel_rfl) (by decide) ?_
      refine AllE.cons (o := _) rfl (fun K hK => ?_) AllE.nil
      try simp only [List.getElem_toArray, List.getElem_cons_zero, List.getElem_cons_succ]
      go_simp
      have QF := Lib.hid (set7_rowS QB.out (.int .i64 rpc) (.int .i64 rsp) (.int .i64 rfp) (.slice u1 rst.length t1) (.slice u2 rout.length t2) (.int .i64 rstt) (.int .i64 rval))
      have BF := Lib.hid (set7_belowS (b := nb) DD.out HZB.out (.int .i64 rpc) (.int .i64 rsp) (.int .i64 rfp) (.slice u1 rst.length t1) (.slice u2 rout.length t2) (.int .i64 rstt) (.int .i64 rval))
      have XF1 := Lib.hid (readI_of (own7s (v0 := .int .i64 rpc) (v1 := .int .i64 rsp) (v2 := .int .i64 rfp) (v3 := .slice u1 rst.length t1) (v4 := .slice u2 rout.length t2) (v5 := .int .i64 rstt) (v6 := .int .i64 rval) XO1.out (ne_types XO1.out QB.out (by decide))))
      have XF2 := Lib.hid (readI_of (own7s (v0 := .int .i64 rpc) (v1 := .int .i64 rsp) (v2 := .int .i64 rfp) (v3 := .slice u1 rst.length t1) (v4 := .slice u2 rout.length t2) (v5 := .int .i64 rstt) (v6 := .int .i64 rval) XO2.out (ne_types XO2.out QB.out (by decide))))
      refine hK.out _ _ (SHOW.out _ BF.out) (fun hHeld => ?_)
      clear hK K
      try simp only [Act.put, List.setIfInBounds_toArray, List.set_cons_zero, List.set_cons_succ, List.getElem_toArray, List.getElem_cons_zero, List.getElem_cons_succ]
      refine E_last (o := _) (by kernel_rfl) rfl (by kernel_rfl) (fun K hK => ?_)
      try simp only [List.getElem_toArray, List.getElem_cons_zero, List.getElem_cons_succ]
      go_simp
      refine hK.out _ _ ?_
      clear hK K
      go_wp2
      go_meet
      exact ⟨rfl, nb, u1, u2, t1, t2, rfl, QF, BF, XF1, XF2, HZB.out⟩
  case rest =>
    rename World => wb
    obtain ⟨rfl, nb, u1, u2, t1, t2, rfl, QW, BW, RW1, RW2, hnb⟩ := hcut
    have zb := BW.out.size
    have hnbw : nb < wb.heap.size := (blk QW.out).2.2
    have HB2 : Hid (Below w.heap.size w wb) := Lib.hid (BX0.out _ BW.out).2.2
    have hnb0 : w.heap.size + 2 ≤ nb := by have := HZ0.out; omega
    have hq := (BX0.out _ BW.out).1
    obtain ⟨e0, e1, e2⟩ := cells3s hq
    clear hq D2 HB0
    go_wp2_with fail
    refine (TA.out _ HB2.out).mono ?_
    rintro e w3 ⟨v0, X, v1, v2, rfl, O0, M0, p0, O1, O2, b3⟩
    obtain ⟨x0, y0, rfl⟩ := owns3_shape O0
    obtain ⟨x1, y1, rfl⟩ := owns_shape O1
    obtain ⟨x2, y2, rfl⟩ := owns_shape O2
    have z3 := b3.size
    have RS := Lib.hid (readSp_of O0 M0 O1 O2)
    have SHM := Lib.hid (shM_of O0 M0 RS.out.1)
    have SHB := Lib.hid (shI_of O1)
    have SHE := Lib.hid (shI_of O2)
    have HPX := Lib.hid p0
    have D3 : Hid (Below W0.heap.size W0 w3) := Lib.hid (BW.out.trans (b3.mono zb))
    have Bb3 := Lib.hid b3
    clear O0 M0 p0 O1 O2 b3 e0 e1 e2 HB2
    have QS := Lib.hid (heap_alloc_new w3 (.cells #[.slice x0 X.length y0, .slice x1 B.length y1, .slice x2 E.length y2] 34))
    have BS := Lib.hid ((Below.refl w3.heap.size w3).alloc (Nat.le_refl _) (.cells #[.slice x0 X.length y0, .slice x1 B.length y1, .slice x2 E.length y2] 34))
    have D3a : Hid (Below W0.heap.size W0 (w3.alloc (.cells #[.slice x0 X.length y0, .slice x1 B.length y1, .slice x2 E.length y2] 34))) := Lib.hid (D3.out.trans (BS.out.mono D3.out.size))
    have tz3 : (w3.alloc (.cells #[.slice x0 X.length y0, .slice x1 B.length y1, .slice x2 E.length y2] 34)).heap.size = w3.heap.size + 1 := by simp
    have hq := (BX0.out _ D3.out).2.1
    have hq' := (BX0.out _ D3a.out).2.1
    obtain ⟨⟨e0, e1, e2, e3, e4, e5, e6⟩, _, _⟩ := res7 hq
    obtain ⟨⟨f0, f1, f2, f3, f4, f5, f6⟩, _, _⟩ := res7 hq'
    have TM1 := Lib.hid (TM.out _ (BX0.out _ D3a.out).2.2 q1 q2)
    clear hq hq'
    go_wp2_with fail
    refine TM1.out.mono ?_
    rintro e w4 ⟨v1, v2, rfl, O1, O2, _, b4⟩
    obtain ⟨z1, s1, rfl⟩ := owns_shape O1
    obtain ⟨z2, s2, rfl⟩ := owns_shape O2
    have z4 := b4.size
    rw [tz3] at z4 O1 O2
    have B34 : Hid (Below w3.heap.size w3 w4) := Lib.hid (BS.out.trans (b4.mono (by omega)))
    have S4 := Lib.hid ((b4.block w3.heap.size (by omega)).trans QS.out)
    have RM1 := Lib.hid (readI_of (by rw [← HSN.out] at O1; exact O1))
    have RM2 := Lib.hid (readI_of (by rw [← HON.out] at O2; exact O2))
    have XS1 : Hid (ShI (w3.heap.size + 1) w4.heap.size w4 z1 sn) := Lib.hid (by have h := shI_of (l := st) (by rw [HSN.out]; exact O1); rw [HSN.out] at h; exact h)
    have XS2 : Hid (ShI (w3.heap.size + 1) w4.heap.size w4 z2 on) := Lib.hid (by have h := shI_of (l := out) (by rw [HON.out]; exact O2); rw [HON.out] at h; exact h)
    have PM1 := Lib.hid (owns_lo O1 (Nat.zero_le _))
    have PM2 := Lib.hid (owns_lo O2 (Nat.zero_le _))
    clear O1 O2 b4 TM1 e0 e1 e2 e3 e4 e5 e6 f0 f1 f2 f3 f4 f5 f6 BS QS D3a tz3
    have QX := Lib.hid (heap_alloc_new w4 (.cells #[.int .i64 pc, .int .i64 sp, .int .i64 fp, .slice z1 sn s1, .slice z2 on s2, .int .i64 stt, .int .i64 val] 30))
    have BX := Lib.hid ((Below.refl w4.heap.size w4).alloc (Nat.le_refl _) (.cells #[.int .i64 pc, .int .i64 sp, .int .i64 fp, .slice z1 sn s1, .slice z2 on s2, .int .i64 stt, .int .i64 val] 30))
    have tz4 : (w4.alloc (.cells #[.int .i64 pc, .int .i64 sp, .int .i64 fp, .slice z1 sn s1, .slice z2 on s2, .int .i64 stt, .int .i64 val] 30)).heap.size = w4.heap.size + 1 := by simp
    have S4a := Lib.hid ((BX.out.block w3.heap.size (by omega)).trans S4.out)
    obtain ⟨e0, e1, e2⟩ := cells3s S4.out
    obtain ⟨f0, f1, f2⟩ := cells3s S4a.out
    have NI1 := Lib.hid (NMC.out X x0 x1 x2 y0 y1 y2 z1 z2 s1 s2 _ HPX.out (RS.out.below (B34.out.trans (BX.out.mono (by omega)))) (owns_below PM1.out BX.out) (owns_below PM2.out BX.out))
    go_wp2_with fail
    refine NI1.out.mono ?_
    rintro e w5 ⟨v1, v2, rfl, O1, O2, OA, b5⟩
    obtain ⟨h1, l1, rfl⟩ := owns_shape O1
    obtain ⟨h2, l2, rfl⟩ := owns_shape O2
    have z5 := b5.size
    rw [tz4] at z5 O1 O2
    have B45 : Hid (Below w4.heap.size w4 w5) := Lib.hid (BX.out.trans (b5.mono (by omega)))
    have X5 := Lib.hid ((b5.block w4.heap.size (by omega)).trans QX.out)
    have G1 := Lib.hid O1
    have G2 := Lib.hid O2
    have GA := Lib.hid OA
    have RG1 := Lib.hid (readI_of O1)
    have RG2 := Lib.hid (readI_of O2)
    clear O1 O2 OA b5 NI1 e0 e1 e2 f0 f1 f2 BX QX S4a tz4 PM1 PM2
    have QG := Lib.hid (heap_alloc_new w5 (.cells #[.int .i64 rpc, .int .i64 rsp, .int .i64 rfp, .slice h1 rst.length l1, .slice h2 rout.length l2, .int .i64 rstt, .int .i64 rval] 30))
    have BG := Lib.hid ((Below.refl w5.heap.size w5).alloc (Nat.le_refl _) (.cells #[.int .i64 rpc, .int .i64 rsp, .int .i64 rfp, .slice h1 rst.length l1, .slice h2 rout.length l2, .int .i64 rstt, .int .i64 rval] 30))
    have tz5 : (w5.alloc (.cells #[.int .i64 rpc, .int .i64 rsp, .int .i64 rfp, .slice h1 rst.length l1, .slice h2 rout.length l2, .int .i64 rstt, .int .i64 rval] 30)).heap.size = w5.heap.size + 1 := by simp
    have B35 : Hid (Below w3.heap.size w3 w5) := Lib.hid (B34.out.trans (B45.out.mono (by omega)))
    have Bb5 : Hid (Below wb.heap.size wb w5) := Lib.hid (Bb3.out.trans (B35.out.mono z3))
    have D5 : Hid (Below W0.heap.size W0 w5) := Lib.hid (D3.out.trans (B35.out.mono (by omega)))
    have KP : Hid (∀ W, Below (w5.alloc (.cells #[.int .i64 rpc, .int .i64 rsp, .int .i64 rfp, .slice h1 rst.length l1, .slice h2 rout.length l2, .int .i64 rstt, .int .i64 rval] 30)).heap.size (w5.alloc (.cells #[.int .i64 rpc, .int .i64 rsp, .int .i64 rfp, .slice h1 rst.length l1, .slice h2 rout.length l2, .int .i64 rstt, .int .i64 rval] 30)) W → W.heap[w.heap.size]? = some (.cells #[.slice a0 I.length c0, .slice a1 B.length c1, .slice a2 E.length c2] 25 (0, 0)) ∧ W.heap[w.heap.size + 1]? = some (.cells #[.int .i64 pc, .int .i64 sp, .int .i64 fp, .slice aS sn cS, .slice aO on cO, .int .i64 stt, .int .i64 val] 27 (0, 0)) ∧ W.heap[nb]? = some (.cells #[.int .i64 rpc, .int .i64 rsp, .int .i64 rfp, .slice u1 rst.length t1, .slice u2 rout.length t2, .int .i64 rstt, .int .i64 rval] 30 (0, 0)) ∧ W.heap[w3.heap.size]? = some (.cells #[.slice x0 X.length y0, .slice x1 B.length y1, .slice x2 E.length y2] 34 (0, 0)) ∧ W.heap[w4.heap.size]? = some (.cells #[.int .i64 pc, .int .i64 sp, .int .i64 fp, .slice z1 sn s1, .slice z2 on s2, .int .i64 stt, .int .i64 val] 30 (0, 0)) ∧ W.heap[w5.heap.size]? = some (.cells #[.int .i64 rpc, .int .i64 rsp, .int .i64 rfp, .slice h1 rst.length l1, .slice h2 rout.length l2, .int .i64 rstt, .int .i64 rval] 30 (0, 0)) ∧ Below w.heap.size w W ∧ Below w3.heap.size w3 W ∧ Below w4.heap.size w4 W ∧ W.ownsRow (w4.heap.size + 1) 3 1 (.slice h1 rst.length l1) rst.length (intV rst) ∧ W.ownsRow (w4.heap.size + 1) 3 1 (.slice h2 rout.length l2) rout.length (intV rout) ∧ Below wb.heap.size wb W ∧ ReadI W u1 rst ∧ ReadI W u2 rout ∧ ReadI W h1 rst ∧ ReadI W h2 rout) := Lib.hid (fun W hb => by
      have hb5 := BG.out.trans (hb.mono (by omega))
      have hb4 := B45.out.trans (hb5.mono (by omega))
      have hb3 := B35.out.trans (hb5.mono (by omega))
      have hbb := Bb5.out.trans (hb5.mono (by omega))
      obtain ⟨t0, t1', t2'⟩ := BX0.out _ (D5.out.trans (hb5.mono (by have := D5.out.size; omega)))
      exact ⟨t0, t1', (hbb.block _ hnbw).trans QW.out, (hb4.block _ (by omega)).trans S4.out, (hb5.block _ (by omega)).trans X5.out, (hb.block _ (by omega)).trans QG.out, t2', hb3, hb4, owns_below G1.out hb5, owns_below G2.out hb5, hbb, RW1.out.below hbb, RW2.out.below hbb, RG1.out.below hb5, RG2.out.below hb5⟩)
    clear S4 X5 QG B35 Bb5 B45 BG QW Bb3 D3 B34
    have K5 := Lib.hid (KP.out _ (Below.refl _ _))
    obtain ⟨_, _, hq, _, _, hg, _⟩ := K5.out
    obtain ⟨⟨i0, i1, i2, i3, i4, i5, i6⟩, _, _⟩ := res7 hq
    obtain ⟨⟨j0, j1, j2, j3, j4, j5, j6⟩, _, _⟩ := res7 hg
    clear hq hg
    go_wp2_with fail
    obtain ⟨_, _, _, _, _, _, _, _, _, _, _, _, R1, R2, R3, R4⟩ := K5.out
    refine (EA.out h1 h2 u1 u2 l1 l2 t1 t2 _ R3 R4 R1 R2).mono ?_
    rintro e w6 ⟨rfl, b6⟩
    have z6 := b6.size
    rw [tz5] at z6
    have K6 : Hid (∀ W, Below w6.heap.size w6 W → Below (w5.alloc (.cells #[.int .i64 rpc, .int .i64 rsp, .int .i64 rfp, .slice h1 rst.length l1, .slice h2 rout.length l2, .int .i64 rstt, .int .i64 rval] 30)).heap.size (w5.alloc (.cells #[.int .i64 rpc, .int .i64 rsp, .int .i64 rfp, .slice h1 rst.length l1, .slice h2 rout.length l2, .int .i64 rstt, .int .i64 rval] 30)) W) := Lib.hid (fun W hb => b6.trans (hb.mono (by rw [tz5]; omega)))
    clear R1 R2 R3 R4 K5 b6 tz5 i0 i1 i2 i3 i4 i5 i6 j0 j1 j2 j3 j4 j5 j6
    have p0 : w.heap.size < w6.heap.size := by omega
    have p3 : w3.heap.size < w6.heap.size := by omega
    have K66 := Lib.hid (KP.out _ (K6.out _ (Below.refl _ _)))
    obtain ⟨ka, _, _, ks, _, _, kw, k3, _⟩ := K66.out
    have HB6 := Lib.hid kw
    have RS6 := Lib.hid (RS.out.below k3)
    have C0 := cells3s ka
    have D0 := cells3s ks
    have HC0 := Lib.hid C0
    have HD0 := Lib.hid D0
    clear ka ks kw k3 K66
    obtain ⟨e0, e1, e2⟩ := C0
    obtain ⟨f0, f1, f2⟩ := D0
    have EQ := Lib.hid (fun (W : World) (b0 b1 b2 : Option Addr) (d0 d1 d2 : Nat) (Y : List ImA) (hY : psI Y = ps) m1 m2 => l_eqSpace x0 x1 x2 b0 b1 b2 y0 y1 y2 d0 d1 d2 X Y B E W m1 m2 (HPX.out.trans hY.symm) (SML2.out X HPX.out).1 q4 q5 (SML.out X HPX.out).2.2.2.1)
    go_wp2_with fail
    go_region_held3 (fun w' => (w'.cell? ⟨w.heap.size, 0, none⟩ = some (.slice a0 I.length c0) ∧ w'.cell? ⟨w.heap.size, 1, none⟩ = some (.slice a1 B.length c1) ∧ w'.cell? ⟨w.heap.size, 2, none⟩ = some (.slice a2 E.length c2)) ∧ (w'.cell? ⟨w3.heap.size, 0, none⟩ = some (.slice x0 X.length y0) ∧ w'.cell? ⟨w3.heap.size, 1, none⟩ = some (.slice x1 B.length y1) ∧ w'.cell? ⟨w3.heap.size, 2, none⟩ = some (.slice x2 E.length y2)))
      (first | go_keep | (exact ⟨keep3s bA p0 HC0.out, keep3s bA p3 HD0.out⟩) | (exact ⟨keep3s bC (by omega) (keep3s bA p0 HC0.out), keep3s bC (by omega) (keep3s bA p3 HD0.out)⟩))
      (first
        | (go_at_call 8; (with_reducible refine (TA.out _ ?_).mono ?_); exact HB6.out.drew; rintro e wA ⟨v0, Y, v1, v2, rfl, O0, M0, p0', O1, O2, bA⟩; obtain ⟨n0, m0', rfl⟩ := owns3_shape O0; obtain ⟨n1, m1', rfl⟩ := owns_shape O1; obtain ⟨n2, m2', rfl⟩ := owns_shape O2; have RY := Lib.hid (readSp_of O0 M0 O1 O2); have HPY := Lib.hid p0'; clear O0 M0 O1 O2 p0'; have zA : w6.heap.size ≤ wA.heap.size := bA.size)
        | (go_at_call 12; (with_reducible refine (EQ.out _ _ _ _ _ _ _ _ HPY.out ?_ ?_).mono ?_); exact RS6.out.below (undrew bA); exact RY.out; rintro e wC ⟨rfl, bC⟩))
    all_goals
      have DC : Hid (Below w6.heap.size w6 wC) := Lib.hid ((Below.refl w6.heap.size w6).drew.trans ((bA.trans (bC.mono (by exact zA))).mono (Nat.le_refl _)))
      clear bA bC zA HC0 HD0 e0 e1 e2 f0 f1 f2 RS6 HB6 EQ RY HPY
      have zC := DC.out.size
      have c1' : w.heap.size + 1 < wC.heap.size := by omega
      have c4' : w4.heap.size < wC.heap.size := by omega
      have KC := Lib.hid (KP.out wC (K6.out _ DC.out))
      obtain ⟨_, ka, _, _, ks, _, kw, _, k4, _⟩ := KC.out
      have HBC := Lib.hid kw
      have RC1 := Lib.hid (RM1.out.below k4)
      have RC2 := Lib.hid (RM2.out.below k4)
      have C0 := (res7 ka).1
      have D0 := (res7 ks).1
      have HC0 := Lib.hid C0
      have HD0 := Lib.hid D0
      clear ka ks kw k4 KC
      obtain ⟨e0, e1, e2, e3, e4, e5, e6⟩ := C0
      obtain ⟨f0, f1, f2, f3, f4, f5, f6⟩ := D0
      go_wp2_with fail
      go_region_held3 (fun w' => (w'.cell? ⟨w.heap.size + 1, 0, none⟩ = some (.int .i64 pc) ∧ w'.cell? ⟨w.heap.size + 1, 1, none⟩ = some (.int .i64 sp) ∧ w'.cell? ⟨w.heap.size + 1, 2, none⟩ = some (.int .i64 fp) ∧ w'.cell? ⟨w.heap.size + 1, 3, none⟩ = some (.slice aS sn cS) ∧ w'.cell? ⟨w.heap.size + 1, 4, none⟩ = some (.slice aO on cO) ∧ w'.cell? ⟨w.heap.size + 1, 5, none⟩ = some (.int .i64 stt) ∧ w'.cell? ⟨w.heap.size + 1, 6, none⟩ = some (.int .i64 val)) ∧ (w'.cell? ⟨w4.heap.size, 0, none⟩ = some (.int .i64 pc) ∧ w'.cell? ⟨w4.heap.size, 1, none⟩ = some (.int .i64 sp) ∧ w'.cell? ⟨w4.heap.size, 2, none⟩ = some (.int .i64 fp) ∧ w'.cell? ⟨w4.heap.size, 3, none⟩ = some (.slice z1 sn s1) ∧ w'.cell? ⟨w4.heap.size, 4, none⟩ = some (.slice z2 on s2) ∧ w'.cell? ⟨w4.heap.size, 5, none⟩ = some (.int .i64 stt) ∧ w'.cell? ⟨w4.heap.size, 6, none⟩ = some (.int .i64 val)))
        (first | go_keep | (exact ⟨keep7s bE c1' HC0.out, keep7s bE c4' HD0.out⟩) | (exact ⟨keep7s bF (by omega) (keep7s bE c1' HC0.out), keep7s bF (by omega) (keep7s bE c4' HD0.out)⟩))
        (first
          | (go_at_call 9; (with_reducible refine (TM.out _ ?_ q1 q2).mono ?_); exact HBC.out.drew; rintro e wE ⟨v1, v2, rfl, O1, O2, _, bE⟩; obtain ⟨n1, m1', rfl⟩ := owns_shape O1; obtain ⟨n2, m2', rfl⟩ := owns_shape O2; have RY1 := Lib.hid (readI_of (by rw [← HSN.out] at O1; exact O1)); have RY2 := Lib.hid (readI_of (by rw [← HON.out] at O2; exact O2)); clear O1 O2; have zE : wC.heap.size ≤ wE.heap.size := bE.size)
          | (go_at_call 11; (with_reducible refine (EM.out _ _ _ _ _ _ _ _ _ ?_ ?_ ?_ ?_).mono ?_); exact RC1.out.below (undrew bE); exact RC2.out.below (undrew bE); exact RY1.out; exact RY2.out; rintro e wF ⟨rfl, bF⟩))
      all_goals
        have DF : Hid (Below w6.heap.size w6 wF) := Lib.hid (DC.out.trans (((Below.refl wC.heap.size wC).drew.trans ((bE.trans (bF.mono (by exact zE))).mono (Nat.le_refl _))).mono zC))
        clear bE bF zE HC0 HD0 e0 e1 e2 e3 e4 e5 e6 f0 f1 f2 f3 f4 f5 f6 RC1 RC2 HBC RY1 RY2 DC c1' c4'
        have KF := Lib.hid (KP.out wF (K6.out _ DF.out))
        have zF := DF.out.size
        clear DF K6 KP
        obtain ⟨_, _, _, hs, _, _, _, hb3, hb4, _⟩ := KF.out
        obtain ⟨d0, d1, d2⟩ := cells3s hs
        have MS := Lib.hid (l_markSpM wb.heap.size w3.heap.size x0 x1 x2 y0 y1 y2 1 B.length E.length X wF hb3.size (SHM.out.mkd (Mkd.below hb3)) (SHB.out.mkd (Mkd.below (lo := 0) (hi := 0) hb3)) (SHE.out.mkd (Mkd.below (lo := 0) (hi := 0) hb3)) (by omega) (by have := (SML2.out X HPX.out).2.1; omega) (SML2.out X HPX.out).2.2 (SML2.out X HPX.out).1 q4 q5)
        have XF1 := Lib.hid (XS1.out.mkd (Mkd.below (lo := 0) (hi := 0) hb4))
        have XF2 := Lib.hid (XS2.out.mkd (Mkd.below (lo := 0) (hi := 0) hb4))
        have eone : ((1 : Nat) : Int) = 1 := rfl
        rw [eone] at MS
        have hKb : 1 + X.length + 3 * sumI X + B.length + E.length ≤ 6000000 := by have := (SML2.out X HPX.out).2.1; omega
        obtain ⟨K, hK⟩ : ∃ K, 1 + X.length + 3 * sumI X + B.length + E.length = K := ⟨_, rfl⟩
        rw [hK] at MS hKb
        clear hK eone hs hb3 hb4 SHM SHB SHE RS XS1 XS2
        go_wp2_with fail
        refine MS.out.mono ?_
        rintro e w7 ⟨rfl, b7⟩
        have z7 := b7.size
        have hx4 : w7.heap[w4.heap.size]? = some (.cells #[.int .i64 pc, .int .i64 sp, .int .i64 fp, .slice z1 sn s1, .slice z2 on s2, .int .i64 stt, .int .i64 val] 30 (0, 0)) := (b7.block (by omega) (.inr (by omega))).trans KF.out.2.2.2.2.1
        obtain ⟨⟨f0, f1, f2, f3, f4, f5, f6⟩, _, _⟩ := res7 hx4
        have MM := Lib.hid (l_markMcM (w3.heap.size + 1) w4.heap.size pc sp fp stt val z1 z2 s1 s2 sn on K w7 (by omega) (XF1.out.mkd b7) (XF2.out.mkd b7) hKb q1 q2)
        have B7 := Lib.hid b7
        clear hx4 b7 MS d0 d1 d2 XF1 XF2
        go_wp2_with fail
        refine MM.out.mono ?_
        rintro e w8 ⟨rfl, b8⟩
        have hdK : decide (((K + sn + on : Nat) : Int) < 0) = false := by simp; omega
        have K8 : Hid (∀ W, Below w8.heap.size w8 W → W.heap[w.heap.size]? = some (.cells #[.slice a0 I.length c0, .slice a1 B.length c1, .slice a2 E.length c2] 25 (0, 0)) ∧ W.heap[w.heap.size + 1]? = some (.cells #[.int .i64 pc, .int .i64 sp, .int .i64 fp, .slice aS sn cS, .slice aO on cO, .int .i64 stt, .int .i64 val] 27 (0, 0)) ∧ W.heap[nb]? = some (.cells #[.int .i64 rpc, .int .i64 rsp, .int .i64 rfp, .slice u1 rst.length t1, .slice u2 rout.length t2, .int .i64 rstt, .int .i64 rval] 30 (0, 0)) ∧ W.heap[w5.heap.size]? = some (.cells #[.int .i64 rpc, .int .i64 rsp, .int .i64 rfp, .slice h1 rst.length l1, .slice h2 rout.length l2, .int .i64 rstt, .int .i64 rval] 30 (0, 0)) ∧ Below w.heap.size w W ∧ Below wb.heap.size wb W ∧ W.ownsRow (w4.heap.size + 1) 3 1 (.slice h1 rst.length l1) rst.length (intV rst) ∧ W.ownsRow (w4.heap.size + 1) 3 1 (.slice h2 rout.length l2) rout.length (intV rout) ∧ ReadI W h1 rst ∧ ReadI W h2 rout ∧ ReadI W u1 rst ∧ ReadI W u2 rout ∧ Below w8.heap.size w8 W) := Lib.hid (fun W hb => by
          obtain ⟨ka, km, kn, _, _, kg, kb, _, _, o1, o2, kk, _⟩ := KF.out
          have s8 := b8.size
          have blkL : ∀ k, k < wb.heap.size → W.heap[k]? = wF.heap[k]? := fun k hk => (hb.block _ (by omega)).trans ((b8.block (by omega) (.inl (by omega))).trans (B7.out.block (by omega) (.inl (by omega))))
          have blkH : ∀ k, w4.heap.size < k → k < wF.heap.size → W.heap[k]? = wF.heap[k]? := fun k h1 h2 => (hb.block _ (by omega)).trans ((b8.block (by omega) (.inr (by omega))).trans (B7.out.block (by omega) (.inr (by omega))))
          have bbF : Below wb.heap.size wF W := (B7.out.toBelow (B := wb.heap.size) (Nat.le_refl _) kk.size).trans ((b8.toBelow (B := wb.heap.size) (by omega) (by have := kk.size; omega)).trans (hb.mono (by have := kk.size; omega)))
          have bb8 : Below wb.heap.size wb W := kk.trans bbF
          have p1 : W.ownsRow (w4.heap.size + 1) 3 1 (.slice h1 rst.length l1) rst.length (intV rst) := owns_if o1 (fun g hg => blkH g (by have := (o1.lt g hg).1; omega) (o1.lt g hg).2)
          have p2 : W.ownsRow (w4.heap.size + 1) 3 1 (.slice h2 rout.length l2) rout.length (intV rout) := owns_if o2 (fun g hg => blkH g (by have := (o2.lt g hg).1; omega) (o2.lt g hg).2)
          exact ⟨(blkL _ (by omega)).trans ka, (blkL _ (by omega)).trans km, (blkL _ hnbw).trans kn, (blkH _ (by omega) (by omega)).trans kg, kb.trans (bbF.mono (by omega)), bb8, p1, p2, readI_of p1, readI_of p2, RW1.out.below bb8, RW2.out.below bb8, hb⟩)
        have z8 := b8.size
        clear b8 B7 KF MM f0 f1 f2 f3 f4 f5 f6
        have K88 := Lib.hid (K8.out _ (Below.refl _ _))
        obtain ⟨_, _, hq, hg, _⟩ := K88.out
        obtain ⟨⟨i0, i1, i2, i3, i4, i5, i6⟩, _, _⟩ := res7 hq
        obtain ⟨⟨j0, j1, j2, j3, j4, j5, j6⟩, _, _⟩ := res7 hg
        clear hq hg
        go_wp2_with fail
        obtain ⟨_, _, _, _, _, _, _, _, R3, R4, R1, R2, _⟩ := K88.out
        refine (EA.out h1 h2 u1 u2 l1 l2 t1 t2 _ R3 R4 R1 R2).mono ?_
        rintro e w9 ⟨rfl, b9⟩
        clear R1 R2 R3 R4 K88 i0 i1 i2 i3 i4 i5 i6 j0 j1 j2 j3 j4 j5 j6 hdK hKb
        have K9 := Lib.hid (K8.out _ b9)
        have z9 := b9.size
        clear b9 K8
        obtain ⟨_, _, _, hg, _, _, o1, o2, _⟩ := K9.out
        obtain ⟨⟨j0, j1, j2, j3, j4, j5, j6⟩, _, _⟩ := res7 hg
        have MK9 := Lib.hid (MK.out h1 h2 l1 l2 (w4.heap.size + 1) w5.heap.size w9 o1 o2 GA.out (by omega) (by omega) (fun g e => (G1.out.lt g e).2) (fun g e => (G2.out.lt g e).2))
        clear hg o1 o2
        go_wp2_with fail
        refine MK9.out.mono ?_
        rintro e w10 ⟨rfl, N1, N2, b10⟩
        have R1 : Hid (ReadI w10 h1 (mki 1 rst.length)) := Lib.hid (readI_of (l := mki 1 rst.length) (by rw [mki_length]; exact N1))
        have R2 : Hid (ReadI w10 h2 (mki (1 + rst.length) rout.length)) := Lib.hid (readI_of (l := mki (1 + rst.length) rout.length) (by rw [mki_length]; exact N2))
        have K10 : Hid (∀ W, Below w10.heap.size w10 W → W.heap[w.heap.size]? = some (.cells #[.slice a0 I.length c0, .slice a1 B.length c1, .slice a2 E.length c2] 25 (0, 0)) ∧ W.heap[w.heap.size + 1]? = some (.cells #[.int .i64 pc, .int .i64 sp, .int .i64 fp, .slice aS sn cS, .slice aO on cO, .int .i64 stt, .int .i64 val] 27 (0, 0)) ∧ W.heap[nb]? = some (.cells #[.int .i64 rpc, .int .i64 rsp, .int .i64 rfp, .slice u1 rst.length t1, .slice u2 rout.length t2, .int .i64 rstt, .int .i64 rval] 30 (0, 0)) ∧ W.heap[w5.heap.size]? = some (.cells #[.int .i64 rpc, .int .i64 rsp, .int .i64 rfp, .slice h1 rst.length l1, .slice h2 rout.length l2, .int .i64 rstt, .int .i64 rval] 30 (0, 0)) ∧ Below w.heap.size w W ∧ ReadI W h1 (mki 1 rst.length) ∧ ReadI W h2 (mki (1 + rst.length) rout.length) ∧ ReadI W u1 rst ∧ ReadI W u2 rout) := Lib.hid (fun W hb => by
          obtain ⟨ka, km, kn, kg, kb, kk, _⟩ := K9.out
          have s10 := b10.size
          have blkL : ∀ k, k < w4.heap.size + 1 → W.heap[k]? = w9.heap[k]? := fun k hk => (hb.block _ (by omega)).trans (b10.block _ (by omega) (.inl (by omega)))
          have bb9 : Below wb.heap.size w9 W := (b10.toBelow (B := wb.heap.size) (by omega) kk.size).trans (hb.mono (by have := kk.size; omega))
          have bb10 : Below wb.heap.size wb W := kk.trans bb9
          exact ⟨(blkL _ (by omega)).trans ka, (blkL _ (by omega)).trans km, (blkL _ (by omega)).trans kn, (hb.block _ (by omega)).trans ((b10.block _ (by omega) (.inr (by omega))).trans kg), kb.trans (bb9.mono (by omega)), R1.out.below hb, R2.out.below hb, RW1.out.below bb10, RW2.out.below bb10⟩)
        have z10 := b10.size
        clear b10 K9 MK9 N1 N2 j0 j1 j2 j3 j4 j5 j6 G1 G2 GA
        have HM10 := Lib.hid (HM.out h1 h2 l1 l2 w10 R1.out R2.out)
        clear R1 R2
        obtain ⟨_, _, _, hg, _⟩ := K10.out _ (Below.refl _ _)
        obtain ⟨⟨j0, j1, j2, j3, j4, j5, j6⟩, _, _⟩ := res7 hg
        clear hg
        obtain ⟨Q, hQ⟩ : ∃ x, 1 + rst.length + rout.length = x := ⟨_, rfl⟩
        rw [hQ] at HM10 HM ⊢
        clear hQ
        have hdQ : decide ((Q : Int) < 0) = false := by simp
        go_wp2_with fail
        refine HM10.out.mono ?_
        rintro e w12 ⟨rfl, b12⟩
        have z12 := b12.size
        have K12 : Hid (∀ W, Below w12.heap.size w12 W → Below w10.heap.size w10 W) := Lib.hid (fun W hb => b12.trans (hb.mono z12))
        clear b12 HM10 j0 j1 j2 j3 j4 j5 j6
        have BX12 : Hid (∀ W, Below w12.heap.size w12 W → W.heap[w.heap.size]? = some (.cells #[.slice a0 I.length c0, .slice a1 B.length c1, .slice a2 E.length c2] 25 (0, 0)) ∧ W.heap[w.heap.size + 1]? = some (.cells #[.int .i64 pc, .int .i64 sp, .int .i64 fp, .slice aS sn cS, .slice aO on cO, .int .i64 stt, .int .i64 val] 27 (0, 0)) ∧ Below w.heap.size w W) := Lib.hid (fun W hb => by
          obtain ⟨ka, km, _, _, kb, _⟩ := K10.out _ (K12.out _ hb)
          exact ⟨ka, km, kb⟩)
        have D12 := Lib.hid (Below.refl w12.heap.size w12)
        have SHOW2 : Hid (∀ W, Below w12.heap.size w12 W → (fun w' => (w'.cell? ⟨w.heap.size, 0, none⟩ = some (.slice a0 I.length c0) ∧ w'.cell? ⟨w.heap.size, 1, none⟩ = some (.slice a1 B.length c1) ∧ w'.cell? ⟨w.heap.size, 2, none⟩ = some (.slice a2 E.length c2)) ∧ (w'.cell? ⟨w.heap.size + 1, 0, none⟩ = some (.int .i64 pc) ∧ w'.cell? ⟨w.heap.size + 1, 1, none⟩ = some (.int .i64 sp) ∧ w'.cell? ⟨w.heap.size + 1, 2, none⟩ = some (.int .i64 fp) ∧ w'.cell? ⟨w.heap.size + 1, 3, none⟩ = some (.slice aS sn cS) ∧ w'.cell? ⟨w.heap.size + 1, 4, none⟩ = some (.slice aO on cO) ∧ w'.cell? ⟨w.heap.size + 1, 5, none⟩ = some (.int .i64 stt) ∧ w'.cell? ⟨w.heap.size + 1, 6, none⟩ = some (.int .i64 val))) W) := Lib.hid (fun W hb => by
          obtain ⟨t0, t1, _⟩ := BX12.out W hb
          exact ⟨cells3s t0, (res7 t1).1⟩)
        go_upto_region 31 with fail
        go_cut [17, 18] (fun s s9 wx => s9 = .int .i64 rk ∧ ∃ (nbb : Nat) (u1b u2b : Option Addr) (t1b t2b : Nat), s = .pointer (some ⟨nbb, 0, none⟩) ∧ Hid (wx.heap[nbb]? = some (.cells #[.int .i64 rpc, .int .i64 rsp, .int .i64 rfp, .slice u1b rst.length t1b, .slice u2b rout.length t2b, .int .i64 rstt, .int .i64 rval] 30 (0, 0))) ∧ Hid (Below w12.heap.size w12 wx) ∧ Hid (ReadI wx u1b rst) ∧ Hid (ReadI wx u2b rout) ∧ w12.heap.size ≤ nbb)
        case first =>
          have DDb : Hid (Below w12.heap.size w12 w12.drew) := Lib.hid (D12.out.drew)
          refine E_start (S := (fun w' => (w'.cell? ⟨w.heap.size, 0, none⟩ = some (.slice a0 I.length c0) ∧ w'.cell? ⟨w.heap.size, 1, none⟩ = some (.slice a1 B.length c1) ∧ w'.cell? ⟨w.heap.size, 2, none⟩ = some (.slice a2 E.length c2)) ∧ (w'.cell? ⟨w.heap.size + 1, 0, none⟩ = some (.int .i64 pc) ∧ w'.cell? ⟨w.heap.size + 1, 1, none⟩ = some (.int .i64 sp) ∧ w'.cell? ⟨w.heap.size + 1, 2, none⟩ = some (.int .i64 fp) ∧ w'.cell? ⟨w.heap.size + 1, 3, none⟩ = some (.slice aS sn cS) ∧ w'.cell? ⟨w.heap.size + 1, 4, none⟩ = some (.slice aO on cO) ∧ w'.cell? ⟨w.heap.size + 1, 5, none⟩ = some (.int .i64 stt) ∧ w'.cell? ⟨w.heap.size + 1, 6, none⟩ = some (.int .i64 val)))) 11 (by kernel_rfl) (SHOW2.out _ DDb.out) (fun hHeld => ?_)
          refine E_take (i := 0) (oi := _) (v := ?_) rfl (by kernel_rfl) (fun _ _ _ h => h) ?_ (by assumption) ?_
          rotate_left 1
          · (refine Or.inl ⟨by rfl, ?_⟩; intro w hSw; (try dsimp only at hSw); (try simp only [List.getElem_toArray, List.getElem_cons_zero, List.getElem_cons_succ]); go_simp; (first | done | with_reducible rfl))
          try simp only [Act.put, List.setIfInBounds_toArray, List.set_cons_zero, List.set_cons_succ, List.getElem_toArray, List.getElem_cons_zero, List.getElem_cons_succ]
          refine E_take (i := 2) (oi := _) (v := ?_) rfl (by kernel_rfl) (fun _ _ _ h => h) ?_ (by assumption) ?_
          rotate_left 1
          · (refine Or.inl ⟨by rfl, ?_⟩; intro w hSw; (try dsimp only at hSw); (try simp only [List.getElem_toArray, List.getElem_cons_zero, List.getElem_cons_succ]); go_simp; (first | done | with_reducible rfl))
          try simp only [Act.put, List.setIfInBounds_toArray, List.set_cons_zero, List.set_cons_succ, List.getElem_toArray, List.getElem_cons_zero, List.getElem_cons_succ]
          refine E_take (i := 4) (oi := _) (v := ?_) rfl (by kernel_rfl) (fun _ _ _ h => h) ?_ (by assumption) ?_
          rotate_left 1
          · (refine Or.inl ⟨by rfl, ?_⟩; intro w hSw; (try dsimp only at hSw); (try simp only [List.getElem_toArray, List.getElem_cons_zero, List.getElem_cons_succ]); go_simp; (first | done | with_reducible rfl))
          try simp only [Act.put, List.setIfInBounds_toArray, List.set_cons_zero, List.set_cons_succ, List.getElem_toArray, List.getElem_cons_zero, List.getElem_cons_succ]
          refine E_ready (rs := [1, 9]) (by kernel_rfl) (by decide) ?_
          refine AllE.cons (o := _) rfl (fun K hK => ?_) (AllE.cons (o := _) rfl (fun K hK => ?_) AllE.nil)
          · try simp only [List.getElem_toArray, List.getElem_cons_zero, List.getElem_cons_succ]
            go_simp
            refine (TA.out _ ((BX12.out _ DDb.out).2.2)).mono ?_
            rintro e w3 ⟨v0, Xb, v1, v2, rfl, O0, M0, p0, O1, O2, bb⟩
            obtain ⟨x0b, y0b, rfl⟩ := owns3_shape O0
            obtain ⟨x1b, y1b, rfl⟩ := owns_shape O1
            obtain ⟨x2b, y2b, rfl⟩ := owns_shape O2
            have RSb := Lib.hid (readSp_of O0 M0 O1 O2)
            have HPXb := Lib.hid p0
            clear O0 M0 O1 O2 p0
            replace DDb : Hid (Below w12.heap.size w12 w3) := Lib.hid (DDb.out.trans ((Below.refl _ (w12.drew)).trans (bb.mono DDb.out.size)))
            clear bb
            go_wp2_with fail
            refine hK.out _ _ (SHOW2.out _ DDb.out) (fun hHeld => ?_)
            clear hK K
            try simp only [Act.put, List.setIfInBounds_toArray, List.set_cons_zero, List.set_cons_succ, List.getElem_toArray, List.getElem_cons_zero, List.getElem_cons_succ]
            refine E_ready (rs := [3, 9]) (by kernel_rfl) (by decide) ?_
            refine AllE.cons (o := _) rfl (fun K hK => ?_) (AllE.cons (o := _) rfl (fun K hK => ?_) AllE.nil)
            · try simp only [List.getElem_toArray, List.getElem_cons_zero, List.getElem_cons_succ]
              go_simp
              refine (TM.out _ ((BX12.out _ DDb.out).2.2) q1 q2).mono ?_
              rintro e w4 ⟨v1, v2, rfl, O1, O2, _, bb⟩
              obtain ⟨z1b, s1b, rfl⟩ := owns_shape O1
              obtain ⟨z2b, s2b, rfl⟩ := owns_shape O2
              have MO1b := Lib.hid (owns_lo O1 (Nat.zero_le _))
              have MO2b := Lib.hid (owns_lo O2 (Nat.zero_le _))
              clear O1 O2
              replace RSb := Lib.hid (RSb.out.below (bb))
              replace DDb : Hid (Below w12.heap.size w12 w4) := Lib.hid (DDb.out.trans ((Below.refl _ (w3)).trans (bb.mono DDb.out.size)))
              clear bb
              go_wp2_with fail
              refine hK.out _ _ (SHOW2.out _ DDb.out) (fun hHeld => ?_)
              clear hK K
              try simp only [Act.put, List.setIfInBounds_toArray, List.set_cons_zero, List.set_cons_succ, List.getElem_toArray, List.getElem_cons_zero, List.getElem_cons_succ]
              refine E_ready (rs := [5, 9]) (by kernel_rfl) (by decide) ?_
              refine AllE.cons (o := _) rfl (fun K hK => ?_) (AllE.cons (o := _) rfl (fun K hK => ?_) AllE.nil)
              · try simp only [List.getElem_toArray, List.getElem_cons_zero, List.getElem_cons_succ]
                go_simp
                refine (NMC.out Xb x0b x1b x2b y0b y1b y2b z1b z2b s1b s2b _ HPXb.out RSb.out MO1b.out MO2b.out).mono ?_
                rintro e w5 ⟨v1, v2, rfl, O1, O2, _, bb⟩
                obtain ⟨u1b, t1b, rfl⟩ := owns_shape O1
                obtain ⟨u2b, t2b, rfl⟩ := owns_shape O2
                have XO1b := Lib.hid (owns_lo O1 (Nat.zero_le _))
                have XO2b := Lib.hid (owns_lo O2 (Nat.zero_le _))
                clear O1 O2
                replace DDb : Hid (Below w12.heap.size w12 w5) := Lib.hid (DDb.out.trans ((Below.refl _ (w4)).trans (bb.mono DDb.out.size)))
                clear bb
                go_wp2_with fail
                refine hK.out _ _ (SHOW2.out _ DDb.out) (fun hHeld => ?_)
                clear hK K
                try simp only [Act.put, List.setIfInBounds_toArray, List.set_cons_zero, List.set_cons_succ, List.getElem_toArray, List.getElem_cons_zero, List.getElem_cons_succ]
                refine E_take (i := 6) (oi := _) (v := ?_) rfl (by kernel_rfl) (fun _ _ _ h => h) ?_ (by assumption) ?_
                rotate_left 1
                · (refine Or.inl ⟨by rfl, ?_⟩; intro w hSw; (try dsimp only at hSw); (try simp only [List.getElem_toArray, List.getElem_cons_zero, List.getElem_cons_succ]); go_simp; (first | done | with_reducible rfl))
                try simp only [Act.put, List.setIfInBounds_toArray, List.set_cons_zero, List.set_cons_succ, List.getElem_toArray, List.getElem_cons_zero, List.getElem_cons_succ]
                refine E_take (i := 7) (oi := _) (v := ?_) rfl (by kernel_rfl) (fun _ _ _ h => h) ?_ (by assumption) ?_
                rotate_left 1
                · (refine Or.inl ⟨by rfl, ?_⟩; intro w hSw; (try dsimp only at hSw); (try simp only [List.getElem_toArray, List.getElem_cons_zero, List.getElem_cons_succ]); go_simp; (first | done | with_reducible rfl))
                try simp only [Act.put, List.setIfInBounds_toArray, List.set_cons_zero, List.set_cons_succ, List.getElem_toArray, List.getElem_cons_zero, List.getElem_cons_succ]
                refine E_take (i := 8) (oi := _) (v := ?_) rfl (by kernel_rfl) (fun _ _ _ h => h) ?_ (by assumption) ?_
                rotate_left 1
                · (refine Or.inl ⟨by rfl, ?_⟩; intro w hSw; (try dsimp only at hSw); (try simp only [List.getElem_toArray, List.getElem_cons_zero, List.getElem_cons_succ]); go_simp; (first | done | with_reducible rfl))
                try simp only [Act.put, List.setIfInBounds_toArray, List.set_cons_zero, List.set_cons_succ, List.getElem_toArray, List.getElem_cons_zero, List.getElem_cons_succ]
                refine E_ready (rs := [9]) (by kernel_rfl) (by decide) ?_
                refine AllE.cons (o := _) rfl (fun K hK => ?_) AllE.nil
                try simp only [List.getElem_toArray, List.getElem_cons_zero, List.getElem_cons_succ]
                go_simp
                have BA := Lib.hid ((Below.refl _ (w5)).alloc (Nat.le_refl _) (.cells #[.int .i64 0, .int .i64 0, .int .i64 0, .slice none 0 0, .slice none 0 0, .int .i64 0, .int .i64 0] 30))
                have QBb := Lib.hid (heap_alloc_new (w5) (.cells #[.int .i64 0, .int .i64 0, .int .i64 0, .slice none 0 0, .slice none 0 0, .int .i64 0, .int .i64 0] 30))
                have HZBb : Hid (w12.heap.size ≤ (w5).heap.size) := Lib.hid DDb.out.size
                replace DDb := Lib.hid (DDb.out.alloc DDb.out.size (.cells #[.int .i64 0, .int .i64 0, .int .i64 0, .slice none 0 0, .slice none 0 0, .int .i64 0, .int .i64 0] 30))
                replace XO1b := Lib.hid (owns_below XO1b.out BA.out)
                replace XO2b := Lib.hid (owns_below XO2b.out BA.out)
                obtain ⟨nbb, hnb⟩ : ∃ k, (w5).heap.size = k := ⟨_, rfl⟩
                have HNB := Lib.hid hnb
                rw [hnb] at QBb HZBb
                obtain ⟨WA, hWA⟩ : ∃ W, (w5).alloc (.cells #[.int .i64 0, .int .i64 0, .int .i64 0, .slice none 0 0, .slice none 0 0, .int .i64 0, .int .i64 0] 30) = W := ⟨_, rfl⟩
                rw [hWA] at BA QBb DDb XO1b XO2b
                first | rw [hWA] | skip
                first | rw [hnb] | skip
                clear hnb hWA BA HNB
                refine hK.out _ _ (SHOW2.out _ DDb.out) (fun hHeld => ?_)
                clear hK K
                try simp only [Act.put, List.setIfInBounds_toArray, List.set_cons_zero, List.set_cons_succ, List.getElem_toArray, List.getElem_cons_zero, List.getElem_cons_succ]
                obtain ⟨⟨j0, j1, j2, j3, j4, j5, j6⟩, gj, lj⟩ := res7 QBb.out
                refine E_ready (rs := [10]) (by kernel_rfl) (by decide) ?_
                refine AllE.cons (o := _) rfl (fun K hK => ?_) AllE.nil
                try simp only [List.getElem_toArray, List.getElem_cons_zero, List.getElem_cons_succ]
                go_simp
                have QFb := Lib.hid (set7_rowS QBb.out (.int .i64 rpc) (.int .i64 rsp) (.int .i64 rfp) (.slice u1b rst.length t1b) (.slice u2b rout.length t2b) (.int .i64 rstt) (.int .i64 rval))
                have BFb := Lib.hid (set7_belowS (b := nbb) DDb.out HZBb.out (.int .i64 rpc) (.int .i64 rsp) (.int .i64 rfp) (.slice u1b rst.length t1b) (.slice u2b rout.length t2b) (.int .i64 rstt) (.int .i64 rval))
                have XF1b := Lib.hid (readI_of (own7s (v0 := .int .i64 rpc) (v1 := .int .i64 rsp) (v2 := .int .i64 rfp) (v3 := .slice u1b rst.length t1b) (v4 := .slice u2b rout.length t2b) (v5 := .int .i64 rstt) (v6 := .int .i64 rval) XO1b.out (ne_types XO1b.out QBb.out (by decide))))
                have XF2b := Lib.hid (readI_of (own7s (v0 := .int .i64 rpc) (v1 := .int .i64 rsp) (v2 := .int .i64 rfp) (v3 := .slice u1b rst.length t1b) (v4 := .slice u2b rout.length t2b) (v5 := .int .i64 rstt) (v6 := .int .i64 rval) XO2b.out (ne_types XO2b.out QBb.out (by decide))))
                refine hK.out _ _ (SHOW2.out _ BFb.out) (fun hHeld => ?_)
                clear hK K
                try simp only [Act.put, List.setIfInBounds_toArray, List.set_cons_zero, List.set_cons_succ, List.getElem_toArray, List.getElem_cons_zero, List.getElem_cons_succ]
                refine E_last (o := _) (by kernel_rfl) rfl (by kernel_rfl) (fun K hK => ?_)
                try simp only [List.getElem_toArray, List.getElem_cons_zero, List.getElem_cons_succ]
                go_simp
                refine hK.out _ _ ?_
                clear hK K
                go_wp2
                go_meet
                exact ⟨rfl, nbb, u1b, u2b, t1b, t2b, rfl, QFb, BFb, XF1b, XF2b, HZBb.out⟩
              · try simp only [List.getElem_toArray, List.getElem_cons_zero, List.getElem_cons_succ]
                go_simp
                have BA := Lib.hid ((Below.refl _ (w4)).alloc (Nat.le_refl _) (.cells #[.int .i64 0, .int .i64 0, .int .i64 0, .slice none 0 0, .slice none 0 0, .int .i64 0, .int .i64 0] 30))
                have QBb := Lib.hid (heap_alloc_new (w4) (.cells #[.int .i64 0, .int .i64 0, .int .i64 0, .slice none 0 0, .slice none 0 0, .int .i64 0, .int .i64 0] 30))
                have HZBb : Hid (w12.heap.size ≤ (w4).heap.size) := Lib.hid DDb.out.size
                replace DDb := Lib.hid (DDb.out.alloc DDb.out.size (.cells #[.int .i64 0, .int .i64 0, .int .i64 0, .slice none 0 0, .slice none 0 0, .int .i64 0, .int .i64 0] 30))
                replace RSb := Lib.hid (RSb.out.below BA.out)
                replace MO1b := Lib.hid (owns_below MO1b.out BA.out)
                replace MO2b := Lib.hid (owns_below MO2b.out BA.out)
                obtain ⟨nbb, hnb⟩ : ∃ k, (w4).heap.size = k := ⟨_, rfl⟩
                have HNB := Lib.hid hnb
                rw [hnb] at QBb HZBb
                obtain ⟨WA, hWA⟩ : ∃ W, (w4).alloc (.cells #[.int .i64 0, .int .i64 0, .int .i64 0, .slice none 0 0, .slice none 0 0, .int .i64 0, .int .i64 0] 30) = W := ⟨_, rfl⟩
                rw [hWA] at BA QBb DDb RSb MO1b MO2b
                first | rw [hWA] | skip
                first | rw [hnb] | skip
                clear hnb hWA BA HNB
                refine hK.out _ _ (SHOW2.out _ DDb.out) (fun hHeld => ?_)
                clear hK K
                try simp only [Act.put, List.setIfInBounds_toArray, List.set_cons_zero, List.set_cons_succ, List.getElem_toArray, List.getElem_cons_zero, List.getElem_cons_succ]
                refine E_ready (rs := [5]) (by kernel_rfl) (by decide) ?_
                refine AllE.cons (o := _) rfl (fun K hK => ?_) AllE.nil
                try simp only [List.getElem_toArray, List.getElem_cons_zero, List.getElem_cons_succ]
                go_simp
                refine (NMC.out Xb x0b x1b x2b y0b y1b y2b z1b z2b s1b s2b _ HPXb.out RSb.out MO1b.out MO2b.out).mono ?_
                rintro e w5 ⟨v1, v2, rfl, O1, O2, _, bb⟩
                obtain ⟨u1b, t1b, rfl⟩ := owns_shape O1
                obtain ⟨u2b, t2b, rfl⟩ := owns_shape O2
                have XO1b := Lib.hid (owns_lo O1 (Nat.zero_le _))
                have XO2b := Lib.hid (owns_lo O2 (Nat.zero_le _))
                clear O1 O2
                replace DDb : Hid (Below w12.heap.size w12 w5) := Lib.hid (DDb.out.trans ((Below.refl _ (WA)).trans (bb.mono DDb.out.size)))
                replace QBb := Lib.hid ((bb.block _ (blk QBb.out).2.2).trans QBb.out)
                clear bb
                go_wp2_with fail
                refine hK.out _ _ (SHOW2.out _ DDb.out) (fun hHeld => ?_)
                clear hK K
                try simp only [Act.put, List.setIfInBounds_toArray, List.set_cons_zero, List.set_cons_succ, List.getElem_toArray, List.getElem_cons_zero, List.getElem_cons_succ]
                refine E_take (i := 6) (oi := _) (v := ?_) rfl (by kernel_rfl) (fun _ _ _ h => h) ?_ (by assumption) ?_
                rotate_left 1
                · (refine Or.inl ⟨by rfl, ?_⟩; intro w hSw; (try dsimp only at hSw); (try simp only [List.getElem_toArray, List.getElem_cons_zero, List.getElem_cons_succ]); go_simp; (first | done | with_reducible rfl))
                try simp only [Act.put, List.setIfInBounds_toArray, List.set_cons_zero, List.set_cons_succ, List.getElem_toArray, List.getElem_cons_zero, List.getElem_cons_succ]
                refine E_take (i := 7) (oi := _) (v := ?_) rfl (by kernel_rfl) (fun _ _ _ h => h) ?_ (by assumption) ?_
                rotate_left 1
                · (refine Or.inl ⟨by rfl, ?_⟩; intro w hSw; (try dsimp only at hSw); (try simp only [List.getElem_toArray, List.getElem_cons_zero, List.getElem_cons_succ]); go_simp; (first | done | with_reducible rfl))
                try simp only [Act.put, List.setIfInBounds_toArray, List.set_cons_zero, List.set_cons_succ, List.getElem_toArray, List.getElem_cons_zero, List.getElem_cons_succ]
                refine E_take (i := 8) (oi := _) (v := ?_) rfl (by kernel_rfl) (fun _ _ _ h => h) ?_ (by assumption) ?_
                rotate_left 1
                · (refine Or.inl ⟨by rfl, ?_⟩; intro w hSw; (try dsimp only at hSw); (try simp only [List.getElem_toArray, List.getElem_cons_zero, List.getElem_cons_succ]); go_simp; (first | done | with_reducible rfl))
                try simp only [Act.put, List.setIfInBounds_toArray, List.set_cons_zero, List.set_cons_succ, List.getElem_toArray, List.getElem_cons_zero, List.getElem_cons_succ]
                obtain ⟨⟨j0, j1, j2, j3, j4, j5, j6⟩, gj, lj⟩ := res7 QBb.out
                refine E_ready (rs := [10]) (by kernel_rfl) (by decide) ?_
                refine AllE.cons (o := _) rfl (fun K hK => ?_) AllE.nil
                try simp only [List.getElem_toArray, List.getElem_cons_zero, List.getElem_cons_succ]
                go_simp
                have QFb := Lib.hid (set7_rowS QBb.out (.int .i64 rpc) (.int .i64 rsp) (.int .i64 rfp) (.slice u1b rst.length t1b) (.slice u2b rout.length t2b) (.int .i64 rstt) (.int .i64 rval))
                have BFb := Lib.hid (set7_belowS (b := nbb) DDb.out HZBb.out (.int .i64 rpc) (.int .i64 rsp) (.int .i64 rfp) (.slice u1b rst.length t1b) (.slice u2b rout.length t2b) (.int .i64 rstt) (.int .i64 rval))
                have XF1b := Lib.hid (readI_of (own7s (v0 := .int .i64 rpc) (v1 := .int .i64 rsp) (v2 := .int .i64 rfp) (v3 := .slice u1b rst.length t1b) (v4 := .slice u2b rout.length t2b) (v5 := .int .i64 rstt) (v6 := .int .i64 rval) XO1b.out (ne_types XO1b.out QBb.out (by decide))))
                have XF2b := Lib.hid (readI_of (own7s (v0 := .int .i64 rpc) (v1 := .int .i64 rsp) (v2 := .int .i64 rfp) (v3 := .slice u1b rst.length t1b) (v4 := .slice u2b rout.length t2b) (v5 := .int .i64 rstt) (v6 := .int .i64 rval) XO2b.out (ne_types XO2b.out QBb.out (by decide))))
                refine hK.out _ _ (SHOW2.out _ BFb.out) (fun hHeld => ?_)
                clear hK K
                try simp only [Act.put, List.setIfInBounds_toArray, List.set_cons_zero, List.set_cons_succ, List.getElem_toArray, List.getElem_cons_zero, List.getElem_cons_succ]
                refine E_last (o := _) (by kernel_rfl) rfl (by kernel_rfl) (fun K hK => ?_)
                try simp only [List.getElem_toArray, List.getElem_cons_zero, List.getElem_cons_succ]
                go_simp
                refine hK.out _ _ ?_
                clear hK K
                go_wp2
                go_meet
                exact ⟨rfl, nbb, u1b, u2b, t1b, t2b, rfl, QFb, BFb, XF1b, XF2b, HZBb.out⟩
            · try simp only [List.getElem_toArray, List.getElem_cons_zero, List.getElem_cons_succ]
              go_simp
              have BA := Lib.hid ((Below.refl _ (w3)).alloc (Nat.le_refl _) (.cells #[.int .i64 0, .int .i64 0, .int .i64 0, .slice none 0 0, .slice none 0 0, .int .i64 0, .int .i64 0] 30))
              have QBb := Lib.hid (heap_alloc_new (w3) (.cells #[.int .i64 0, .int .i64 0, .int .i64 0, .slice none 0 0, .slice none 0 0, .int .i64 0, .int .i64 0] 30))
              have HZBb : Hid (w12.heap.size ≤ (w3).heap.size) := Lib.hid DDb.out.size
              replace DDb := Lib.hid (DDb.out.alloc DDb.out.size (.cells #[.int .i64 0, .int .i64 0, .int .i64 0, .slice none 0 0, .slice none 0 0, .int .i64 0, .int .i64 0] 30))
              replace RSb := Lib.hid (RSb.out.below BA.out)
              obtain ⟨nbb, hnb⟩ : ∃ k, (w3).heap.size = k := ⟨_, rfl⟩
              have HNB := Lib.hid hnb
              rw [hnb] at QBb HZBb
              obtain ⟨WA, hWA⟩ : ∃ W, (w3).alloc (.cells #[.int .i64 0, .int .i64 0, .int .i64 0, .slice none 0 0, .slice none 0 0, .int .i64 0, .int .i64 0] 30) = W := ⟨_, rfl⟩
              rw [hWA] at BA QBb DDb RSb
              first | rw [hWA] | skip
              first | rw [hnb] | skip
              clear hnb hWA BA HNB
              refine hK.out _ _ (SHOW2.out _ DDb.out) (fun hHeld => ?_)
              clear hK K
              try simp only [Act.put, List.setIfInBounds_toArray, List.set_cons_zero, List.set_cons_succ, List.getElem_toArray, List.getElem_cons_zero, List.getElem_cons_succ]
              refine E_ready (rs := [3]) (by kernel_rfl) (by decide) ?_
              refine AllE.cons (o := _) rfl (fun K hK => ?_) AllE.nil
              try simp only [List.getElem_toArray, List.getElem_cons_zero, List.getElem_cons_succ]
              go_simp
              refine (TM.out _ ((BX12.out _ DDb.out).2.2) q1 q2).mono ?_
              rintro e w4 ⟨v1, v2, rfl, O1, O2, _, bb⟩
              obtain ⟨z1b, s1b, rfl⟩ := owns_shape O1
              obtain ⟨z2b, s2b, rfl⟩ := owns_shape O2
              have MO1b := Lib.hid (owns_lo O1 (Nat.zero_le _))
              have MO2b := Lib.hid (owns_lo O2 (Nat.zero_le _))
              clear O1 O2
              replace RSb := Lib.hid (RSb.out.below (bb))
              replace DDb : Hid (Below w12.heap.size w12 w4) := Lib.hid (DDb.out.trans ((Below.refl _ (WA)).trans (bb.mono DDb.out.size)))
              replace QBb := Lib.hid ((bb.block _ (blk QBb.out).2.2).trans QBb.out)
              clear bb
              go_wp2_with fail
              refine hK.out _ _ (SHOW2.out _ DDb.out) (fun hHeld => ?_)
              clear hK K
              try simp only [Act.put, List.setIfInBounds_toArray, List.set_cons_zero, List.set_cons_succ, List.getElem_toArray, List.getElem_cons_zero, List.getElem_cons_succ]
              refine E_ready (rs := [5]) (by kernel_rfl) (by decide) ?_
              refine AllE.cons (o := _) rfl (fun K hK => ?_) AllE.nil
              try simp only [List.getElem_toArray, List.getElem_cons_zero, List.getElem_cons_succ]
              go_simp
              refine (NMC.out Xb x0b x1b x2b y0b y1b y2b z1b z2b s1b s2b _ HPXb.out RSb.out MO1b.out MO2b.out).mono ?_
              rintro e w5 ⟨v1, v2, rfl, O1, O2, _, bb⟩
              obtain ⟨u1b, t1b, rfl⟩ := owns_shape O1
              obtain ⟨u2b, t2b, rfl⟩ := owns_shape O2
              have XO1b := Lib.hid (owns_lo O1 (Nat.zero_le _))
              have XO2b := Lib.hid (owns_lo O2 (Nat.zero_le _))
              clear O1 O2
              replace DDb : Hid (Below w12.heap.size w12 w5) := Lib.hid (DDb.out.trans ((Below.refl _ (w4)).trans (bb.mono DDb.out.size)))
              replace QBb := Lib.hid ((bb.block _ (blk QBb.out).2.2).trans QBb.out)
              clear bb
              go_wp2_with fail
              refine hK.out _ _ (SHOW2.out _ DDb.out) (fun hHeld => ?_)
              clear hK K
              try simp only [Act.put, List.setIfInBounds_toArray, List.set_cons_zero, List.set_cons_succ, List.getElem_toArray, List.getElem_cons_zero, List.getElem_cons_succ]
              refine E_take (i := 6) (oi := _) (v := ?_) rfl (by kernel_rfl) (fun _ _ _ h => h) ?_ (by assumption) ?_
              rotate_left 1
              · (refine Or.inl ⟨by rfl, ?_⟩; intro w hSw; (try dsimp only at hSw); (try simp only [List.getElem_toArray, List.getElem_cons_zero, List.getElem_cons_succ]); go_simp; (first | done | with_reducible rfl))
              try simp only [Act.put, List.setIfInBounds_toArray, List.set_cons_zero, List.set_cons_succ, List.getElem_toArray, List.getElem_cons_zero, List.getElem_cons_succ]
              refine E_take (i := 7) (oi := _) (v := ?_) rfl (by kernel_rfl) (fun _ _ _ h => h) ?_ (by assumption) ?_
              rotate_left 1
              · (refine Or.inl ⟨by rfl, ?_⟩; intro w hSw; (try dsimp only at hSw); (try simp only [List.getElem_toArray, List.getElem_cons_zero, List.getElem_cons_succ]); go_simp; (first | done | with_reducible rfl))
              try simp only [Act.put, List.setIfInBounds_toArray, List.set_cons_zero, List.set_cons_succ, List.getElem_toArray, List.getElem_cons_zero, List.getElem_cons_succ]
              refine E_take (i := 8) (oi := _) (v := ?_) rfl (by kernel_rfl) (fun _ _ _ h => h) ?_ (by assumption) ?_
              rotate_left 1
              · (refine Or.inl ⟨by rfl, ?_⟩; intro w hSw; (try dsimp only at hSw); (try simp only [List.getElem_toArray, List.getElem_cons_zero, List.getElem_cons_succ]); go_simp; (first | done | with_reducible rfl))
              try simp only [Act.put, List.setIfInBounds_toArray, List.set_cons_zero, List.set_cons_succ, List.getElem_toArray, List.getElem_cons_zero, List.getElem_cons_succ]
              obtain ⟨⟨j0, j1, j2, j3, j4, j5, j6⟩, gj, lj⟩ := res7 QBb.out
              refine E_ready (rs := [10]) (by kernel_rfl) (by decide) ?_
              refine AllE.cons (o := _) rfl (fun K hK => ?_) AllE.nil
              try simp only [List.getElem_toArray, List.getElem_cons_zero, List.getElem_cons_succ]
              go_simp
              have QFb := Lib.hid (set7_rowS QBb.out (.int .i64 rpc) (.int .i64 rsp) (.int .i64 rfp) (.slice u1b rst.length t1b) (.slice u2b rout.length t2b) (.int .i64 rstt) (.int .i64 rval))
              have BFb := Lib.hid (set7_belowS (b := nbb) DDb.out HZBb.out (.int .i64 rpc) (.int .i64 rsp) (.int .i64 rfp) (.slice u1b rst.length t1b) (.slice u2b rout.length t2b) (.int .i64 rstt) (.int .i64 rval))
              have XF1b := Lib.hid (readI_of (own7s (v0 := .int .i64 rpc) (v1 := .int .i64 rsp) (v2 := .int .i64 rfp) (v3 := .slice u1b rst.length t1b) (v4 := .slice u2b rout.length t2b) (v5 := .int .i64 rstt) (v6 := .int .i64 rval) XO1b.out (ne_types XO1b.out QBb.out (by decide))))
              have XF2b := Lib.hid (readI_of (own7s (v0 := .int .i64 rpc) (v1 := .int .i64 rsp) (v2 := .int .i64 rfp) (v3 := .slice u1b rst.length t1b) (v4 := .slice u2b rout.length t2b) (v5 := .int .i64 rstt) (v6 := .int .i64 rval) XO2b.out (ne_types XO2b.out QBb.out (by decide))))
              refine hK.out _ _ (SHOW2.out _ BFb.out) (fun hHeld => ?_)
              clear hK K
              try simp only [Act.put, List.setIfInBounds_toArray, List.set_cons_zero, List.set_cons_succ, List.getElem_toArray, List.getElem_cons_zero, List.getElem_cons_succ]
              refine E_last (o := _) (by kernel_rfl) rfl (by kernel_rfl) (fun K hK => ?_)
              try simp only [List.getElem_toArray, List.getElem_cons_zero, List.getElem_cons_succ]
              go_simp
              refine hK.out _ _ ?_
              clear hK K
              go_wp2
              go_meet
              exact ⟨rfl, nbb, u1b, u2b, t1b, t2b, rfl, QFb, BFb, XF1b, XF2b, HZBb.out⟩
          · try simp only [List.getElem_toArray, List.getElem_cons_zero, List.getElem_cons_succ]
            go_simp
            have QBb : Hid ((w12.alloc (.cells #[.int .i64 0, .int .i64 0, .int .i64 0, .slice none 0 0, .slice none 0 0, .int .i64 0, .int .i64 0] 30)).drew.heap[w12.heap.size]? = some (.cells #[.int .i64 0, .int .i64 0, .int .i64 0, .slice none 0 0, .slice none 0 0, .int .i64 0, .int .i64 0] 30 (0, 0))) := Lib.hid (heap_alloc_new w12 _)
            replace DDb := Lib.hid ((D12.out.alloc D12.out.size (.cells #[.int .i64 0, .int .i64 0, .int .i64 0, .slice none 0 0, .slice none 0 0, .int .i64 0, .int .i64 0] 30)).drew)
            obtain ⟨nbb, hnb⟩ : ∃ k, w12.heap.size = k := ⟨_, rfl⟩
            have HZBb : Hid (w12.heap.size ≤ nbb) := Lib.hid (by rw [← hnb]; exact D12.out.size)
            rw [hnb] at QBb
            obtain ⟨WA, hWA⟩ : ∃ W, (w12.alloc (.cells #[.int .i64 0, .int .i64 0, .int .i64 0, .slice none 0 0, .slice none 0 0, .int .i64 0, .int .i64 0] 30)).drew = W := ⟨_, rfl⟩
            rw [hWA] at QBb DDb
            first | rw [hWA] | skip
            first | rw [hnb] | skip
            clear hnb hWA
            refine hK.out _ _ (SHOW2.out _ DDb.out) (fun hHeld => ?_)
            clear hK K
            try simp only [Act.put, List.setIfInBounds_toArray, List.set_cons_zero, List.set_cons_succ, List.getElem_toArray, List.getElem_cons_zero, List.getElem_cons_succ]
            refine E_ready (rs := [1]) (by kernel_rfl) (by decide) ?_
            refine AllE.cons (o := _) rfl (fun K hK => ?_) AllE.nil
            try simp only [List.getElem_toArray, List.getElem_cons_zero, List.getElem_cons_succ]
            go_simp
            refine (TA.out _ ((BX12.out _ DDb.out).2.2)).mono ?_
            rintro e w3 ⟨v0, Xb, v1, v2, rfl, O0, M0, p0, O1, O2, bb⟩
            obtain ⟨x0b, y0b, rfl⟩ := owns3_shape O0
            obtain ⟨x1b, y1b, rfl⟩ := owns_shape O1
            obtain ⟨x2b, y2b, rfl⟩ := owns_shape O2
            have RSb := Lib.hid (readSp_of O0 M0 O1 O2)
            have HPXb := Lib.hid p0
            clear O0 M0 O1 O2 p0
            replace DDb : Hid (Below w12.heap.size w12 w3) := Lib.hid (DDb.out.trans ((Below.refl _ (WA)).trans (bb.mono DDb.out.size)))
            replace QBb := Lib.hid ((bb.block _ (blk QBb.out).2.2).trans QBb.out)
            clear bb
            go_wp2_with fail
            refine hK.out _ _ (SHOW2.out _ DDb.out) (fun hHeld => ?_)
            clear hK K
            try simp only [Act.put, List.setIfInBounds_toArray, List.set_cons_zero, List.set_cons_succ, List.getElem_toArray, List.getElem_cons_zero, List.getElem_cons_succ]
            refine E_ready (rs := [3]) (by kernel_rfl) (by decide) ?_
            refine AllE.cons (o := _) rfl (fun K hK => ?_) AllE.nil
            try simp only [List.getElem_toArray, List.getElem_cons_zero, List.getElem_cons_succ]
            go_simp
            refine (TM.out _ ((BX12.out _ DDb.out).2.2) q1 q2).mono ?_
            rintro e w4 ⟨v1, v2, rfl, O1, O2, _, bb⟩
            obtain ⟨z1b, s1b, rfl⟩ := owns_shape O1
            obtain ⟨z2b, s2b, rfl⟩ := owns_shape O2
            have MO1b := Lib.hid (owns_lo O1 (Nat.zero_le _))
            have MO2b := Lib.hid (owns_lo O2 (Nat.zero_le _))
            clear O1 O2
            replace RSb := Lib.hid (RSb.out.below (bb))
            replace DDb : Hid (Below w12.heap.size w12 w4) := Lib.hid (DDb.out.trans ((Below.refl _ (w3)).trans (bb.mono DDb.out.size)))
            replace QBb := Lib.hid ((bb.block _ (blk QBb.out).2.2).trans QBb.out)
            clear bb
            go_wp2_with fail
            refine hK.out _ _ (SHOW2.out _ DDb.out) (fun hHeld => ?_)
            clear hK K
            try simp only [Act.put, List.setIfInBounds_toArray, List.set_cons_zero, List.set_cons_succ, List.getElem_toArray, List.getElem_cons_zero, List.getElem_cons_succ]
            refine E_ready (rs := [5]) (by kernel_rfl) (by decide) ?_
            refine AllE.cons (o := _) rfl (fun K hK => ?_) AllE.nil
            try simp only [List.getElem_toArray, List.getElem_cons_zero, List.getElem_cons_succ]
            go_simp
            refine (NMC.out Xb x0b x1b x2b y0b y1b y2b z1b z2b s1b s2b _ HPXb.out RSb.out MO1b.out MO2b.out).mono ?_
            rintro e w5 ⟨v1, v2, rfl, O1, O2, _, bb⟩
            obtain ⟨u1b, t1b, rfl⟩ := owns_shape O1
            obtain ⟨u2b, t2b, rfl⟩ := owns_shape O2
            have XO1b := Lib.hid (owns_lo O1 (Nat.zero_le _))
            have XO2b := Lib.hid (owns_lo O2 (Nat.zero_le _))
            clear O1 O2
            replace DDb : Hid (Below w12.heap.size w12 w5) := Lib.hid (DDb.out.trans ((Below.refl _ (w4)).trans (bb.mono DDb.out.size)))
            replace QBb := Lib.hid ((bb.block _ (blk QBb.out).2.2).trans QBb.out)
            clear bb
            go_wp2_with fail
            refine hK.out _ _ (SHOW2.out _ DDb.out) (fun hHeld => ?_)
            clear hK K
            try simp only [Act.put, List.setIfInBounds_toArray, List.set_cons_zero, List.set_cons_succ, List.getElem_toArray, List.getElem_cons_zero, List.getElem_cons_succ]
            refine E_take (i := 6) (oi := _) (v := ?_) rfl (by kernel_rfl) (fun _ _ _ h => h) ?_ (by assumption) ?_
            rotate_left 1
            · (refine Or.inl ⟨by rfl, ?_⟩; intro w hSw; (try dsimp only at hSw); (try simp only [List.getElem_toArray, List.getElem_cons_zero, List.getElem_cons_succ]); go_simp; (first | done | with_reducible rfl))
            try simp only [Act.put, List.setIfInBounds_toArray, List.set_cons_zero, List.set_cons_succ, List.getElem_toArray, List.getElem_cons_zero, List.getElem_cons_succ]
            refine E_take (i := 7) (oi := _) (v := ?_) rfl (by kernel_rfl) (fun _ _ _ h => h) ?_ (by assumption) ?_
            rotate_left 1
            · (refine Or.inl ⟨by rfl, ?_⟩; intro w hSw; (try dsimp only at hSw); (try simp only [List.getElem_toArray, List.getElem_cons_zero, List.getElem_cons_succ]); go_simp; (first | done | with_reducible rfl))
            try simp only [Act.put, List.setIfInBounds_toArray, List.set_cons_zero, List.set_cons_succ, List.getElem_toArray, List.getElem_cons_zero, List.getElem_cons_succ]
            refine E_take (i := 8) (oi := _) (v := ?_) rfl (by kernel_rfl) (fun _ _ _ h => h) ?_ (by assumption) ?_
            rotate_left 1
            · (refine Or.inl ⟨by rfl, ?_⟩; intro w hSw; (try dsimp only at hSw); (try simp only [List.getElem_toArray, List.getElem_cons_zero, List.getElem_cons_succ]); go_simp; (first | done | with_reducible rfl))
            try simp only [Act.put, List.setIfInBounds_toArray, List.set_cons_zero, List.set_cons_succ, List.getElem_toArray, List.getElem_cons_zero, List.getElem_cons_succ]
            obtain ⟨⟨j0, j1, j2, j3, j4, j5, j6⟩, gj, lj⟩ := res7 QBb.out
            refine E_ready (rs := [10]) (by kernel_rfl) (by decide) ?_
            refine AllE.cons (o := _) rfl (fun K hK => ?_) AllE.nil
            try simp only [List.getElem_toArray, List.getElem_cons_zero, List.getElem_cons_succ]
            go_simp
            have QFb := Lib.hid (set7_rowS QBb.out (.int .i64 rpc) (.int .i64 rsp) (.int .i64 rfp) (.slice u1b rst.length t1b) (.slice u2b rout.length t2b) (.int .i64 rstt) (.int .i64 rval))
            have BFb := Lib.hid (set7_belowS (b := nbb) DDb.out HZBb.out (.int .i64 rpc) (.int .i64 rsp) (.int .i64 rfp) (.slice u1b rst.length t1b) (.slice u2b rout.length t2b) (.int .i64 rstt) (.int .i64 rval))
            have XF1b := Lib.hid (readI_of (own7s (v0 := .int .i64 rpc) (v1 := .int .i64 rsp) (v2 := .int .i64 rfp) (v3 := .slice u1b rst.length t1b) (v4 := .slice u2b rout.length t2b) (v5 := .int .i64 rstt) (v6 := .int .i64 rval) XO1b.out (ne_types XO1b.out QBb.out (by decide))))
            have XF2b := Lib.hid (readI_of (own7s (v0 := .int .i64 rpc) (v1 := .int .i64 rsp) (v2 := .int .i64 rfp) (v3 := .slice u1b rst.length t1b) (v4 := .slice u2b rout.length t2b) (v5 := .int .i64 rstt) (v6 := .int .i64 rval) XO2b.out (ne_types XO2b.out QBb.out (by decide))))
            refine hK.out _ _ (SHOW2.out _ BFb.out) (fun hHeld => ?_)
            clear hK K
            try simp only [Act.put, List.setIfInBounds_toArray, List.set_cons_zero, List.set_cons_succ, List.getElem_toArray, List.getElem_cons_zero, List.getElem_cons_succ]
            refine E_last (o := _) (by kernel_rfl) rfl (by kernel_rfl) (fun K hK => ?_)
            try simp only [List.getElem_toArray, List.getElem_cons_zero, List.getElem_cons_succ]
            go_simp
            refine hK.out _ _ ?_
            clear hK K
            go_wp2
            go_meet
            exact ⟨rfl, nbb, u1b, u2b, t1b, t2b, rfl, QFb, BFb, XF1b, XF2b, HZBb.out⟩
        case rest =>
          rename World => wz
          obtain ⟨rfl, nbb, u1b, u2b, t1b, t2b, rfl, QZ, BZ, RT1, RT2, hnbb⟩ := hcut
          obtain ⟨_, _, hq, _, _, _, _, m1, m2⟩ := K10.out _ (K12.out _ BZ.out)
          obtain ⟨⟨i0, i1, i2, i3, i4, i5, i6⟩, _, _⟩ := res7 hq
          obtain ⟨⟨j0, j1, j2, j3, j4, j5, j6⟩, _, _⟩ := res7 QZ.out
          have EZ := Lib.hid (EA.out u1b u2b u1 u2 t1b t2b t1 t2 _ RT1.out RT2.out m1 m2)
          clear hq m1 m2 QZ RT1 RT2
          go_wp2_with fail
          refine EZ.out.mono ?_
          rintro e wf ⟨rfl, bf⟩
          have Dg : Hid (Below w12.heap.size w12 wf) := Lib.hid (BZ.out.trans (bf.mono BZ.out.size))
          clear bf BZ EZ i0 i1 i2 i3 i4 i5 i6 j0 j1 j2 j3 j4 j5 j6
          obtain ⟨_, _, _, hg, _, m1, m2, _⟩ := K10.out _ (K12.out _ Dg.out)
          obtain ⟨⟨j0, j1, j2, j3, j4, j5, j6⟩, _, _⟩ := res7 hg
          have HM9 := Lib.hid (HM.out h1 h2 l1 l2 wf m1 m2)
          clear hg m1 m2
          go_wp2_with fail
          refine HM9.out.mono ?_
          rintro e wg ⟨rfl, bg⟩
          have HBE := Lib.hid ((BX12.out _ (Dg.out.trans (bg.mono Dg.out.size))).2.2)
          clear bg HM9 Dg j0 j1 j2 j3 j4 j5 j6
          go_wp2
          go_ret
          exact ⟨rfl, HBE.out⟩

theorem own : ownKnob Tryz.prog.godebug = none := by kernel_rfl
theorem laidOut : laidOutB Tryz.prog = true := by kernel_rfl

set_option maxRecDepth 100000 in
theorem lifted (os : Os) (started : os.Started) (H : Type) (enc : TypeId × Value → H) :
    ReturnsInHanded {} Tryz.checked os 4 .any (Rows.fnExactRunMachineSpec.pre6 enc Tryz.prog Tryz.f4 Rows.fnExactRunMachineRow.domain false) (Rows.fnExactRunMachineSpec.post enc Tryz.prog Tryz.f4 false true false false) := by
  refine returnsInHanded_of_change (C := Tryz.checked) own started (by kernel_rfl) Tryz.func4
    (ChangeSpec.witness6 (enc := enc) (C := Tryz.checked) false ⟨#[], #[.agg #[.slice none 0 0, .slice none 0 0, .slice none 0 0], .agg #[.int .i64 0, .int .i64 0, .int .i64 0, .slice none 0 0, .slice none 0 0, .int .i64 0, .int .i64 0], .int .i64 0], []⟩ 8 (by kernel_rfl) (by kernel_rfl) (by kernel_rfl) (by kernel_rfl)) ?_
  intro W base args ds gs before hval0 hW hcnd _
  have hval : ∀ (j : Nat) t v, Tryz.f4.params[j]? = some t → args[j]? = some v → Value.okWide Tryz.prog W .any base t v := hval0
  have hW' := hW
  obtain ⟨p, q, hA0, hV, rfl, hfz, hnd⟩ := hW
  have hA : DataW.TrodAll enc Tryz.prog W 0 (fun _ => true) true Tryz.f4.params.toList args.toList ds p := hA0
  rw [Tryz.params4] at hA hval
  obtain ⟨v0, vs0, d0, ds0, p0, q0, hargs, rfl, rfl, h0, r0⟩ := trodAll_cons hA
  obtain ⟨v1, vs1, d1, ds1, p1, q1, rfl, rfl, rfl, h1, r1⟩ := trodAll_cons r0
  obtain ⟨v2, vs2, d2, ds2, p2, q2, rfl, rfl, rfl, h2, r2⟩ := trodAll_cons r1
  obtain ⟨rfl, rfl, rfl⟩ := trodAll_nil r2
  obtain rfl : args = #[v0, v1, v2] := by cases args; simp_all
  obtain ⟨rfl, rfl⟩ := trodVars_none hV
  have k0 := h0
  have lt0 : ∀ x ∈ p0, x.block < W.heap.size := by obtain ⟨m, hm⟩ := k0; exact DataW.trod_lt m _ _ _ hm
  obtain ⟨x0, y0, z0, X0, Y0, Z0, n0, rfl, _, _, f0, g0, e0⟩ := Joins.open_agg3 Tryz.underlying25 (by kernel_rfl) (by kernel_rfl) (hval 0 25 v0 rfl rfl) h0
  obtain ⟨aI0, cI0, lI0, rfl, mI0, wI0⟩ := argIms_at Tryz.underlying22 Tryz.underlying61 (by kernel_rfl) (by kernel_rfl) Tryz.underlying9 Tryz.underlying59 Tryz.underlying119 (by kernel_rfl) (by kernel_rfl) Tryz.underlying9 Tryz.underlying3 Tryz.underlying3 f0
  obtain ⟨lB0, aB0, cB0, rfl, wB0, mB0, bB0⟩ := argInW_at Tryz.underlying23 Tryz.underlying3 (by kernel_rfl) g0
  obtain ⟨lE0, aE0, cE0, rfl, wE0, mE0, bE0⟩ := argInW_at Tryz.underlying23 Tryz.underlying3 (by kernel_rfl) e0
  have k1 := h1
  have lt1 : ∀ x ∈ p1, x.block < W.heap.size := by obtain ⟨m, hm⟩ := k1; exact DataW.trod_lt m _ _ _ hm
  obtain ⟨M1, aS1, aO1, cS1, cO1, rfl, wA1, wS1, wO1, wN1⟩ := argM_at Tryz.underlying27 (by kernel_rfl) (by kernel_rfl) Tryz.underlying3 Tryz.underlying23 (by kernel_rfl) ⟨rfl, rfl, rfl, rfl, rfl, rfl, rfl⟩ (hval 1 27 v1 rfl rfl) h1
  obtain ⟨a2, rfl, rfl, rfl, w2⟩ := open_int Tryz.underlying3 (hval 2 3 v2 rfl rfl) h2
  clear hA0 hval0
  refine (walk aI0 aB0 aE0 cI0 cB0 cE0 lI0 lB0 lE0 M1 aS1 aO1 cS1 cO1 a2 W mI0 mB0 mE0 bE0 ⟨wI0, wB0, wE0⟩ wA1 wS1 wO1 wN1 w2).mono fun e W' ⟨he, bel⟩ => ?_
  subst he
  exact ⟨_, rfl, _, _, _, [], _, [], hW', trodAll_mk1 (shut_bool Tryz.underlying4 _), (trodAll_cons_mk (Below.trod laidOut (by kernel_rfl) (of_decide_eq_true (by kernel_rfl)) k0 bel lt0) (trodAll_cons_mk (Below.trod laidOut (by kernel_rfl) (of_decide_eq_true (by kernel_rfl)) k1 bel lt1) (trodAll_cons_mk (shut_int Tryz.underlying3 w2) trodAll_mk0))), rfl, bel.frame _, fun h => by cases h⟩

theorem over : Rows.fnExactRunMachineRow.holds Tryz.pinned (OpenSpec.ofChange Rows.fnExactRunMachineSpec) :=
  OpenClaim.holds_of_wide 4 Tryz.f4 rfl rfl rfl rfl rfl rfl rfl ⟨rfl, rfl, rfl, rfl, rfl⟩ rfl rfl rfl rfl rfl (by kernel_rfl) Tryz.func4 (by kernel_rfl)
    (of_decide_eq_true (by kernel_rfl)) (by unfold Func.isWrapper; first | (rw [if_pos (by decide +kernel)]; kernel_rfl) | (rw [if_neg (by decide +kernel)]; exact ⟨rfl, rfl⟩))
    (fun os started H enc _ => lifted os started H enc)

theorem proved : Rows.FnExactRunMachineSaid := over
end Go.Proofs.YtakgjlpgcepnkaaGreat.fnExactRunMachine
