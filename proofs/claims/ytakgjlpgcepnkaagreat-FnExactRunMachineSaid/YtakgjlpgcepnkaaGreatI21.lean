/- The program's step. -/
import Derived.Test.YtakgjlpgcepnkaaGreatI20
import Derived.Test.YtakgjlpgcepnkaaGreatI07
import Derived.Test.YtakgjlpgcepnkaaGreatI14
namespace Go.Proofs.YtakgjlpgcepnkaaGreat
open Go.RowKit Go.Lib

theorem fetA_P (x0 x1 : ImA) (p : Int × Int) : fetA x0 x1 p = fetP x0 x1 p := rfl
/-- The stepper's own block is new. -/
theorem Step.dropC {mb cb : Nat} {sv ov ov' : Value} {w w5 wz : World} (hb : Below w.heap.size w w5) (hS : Step mb (MM cb sv ov) (MM cb sv ov') w5 wz) (hc : w.heap.size ≤ cb) : Step mb [sv, ov] [sv, ov'] w wz := by
  refine ⟨hS.os.trans hb.os, hS.tape.trans hb.tape, hS.output.trans hb.output, Nat.le_trans hb.size hS.size, fun k hk hr hm => (hS.block k (Nat.lt_of_lt_of_le hk hb.size) hr (fun u hu e => ?_)).trans (hb.block k hk), fun u hu g hg => ?_⟩
  · unfold MM at hu
    simp only [List.mem_cons, List.not_mem_nil, or_false] at hu
    rcases hu with rfl | rfl | rfl
    · have : cb = k := Option.some.inj e
      omega
    · exact hm _ (by simp) e
    · exact hm _ (by simp) e
  · have hu' : u ∈ MM cb sv ov' := List.mem_cons_of_mem _ hu
    rcases hS.rows u hu' g hg with ⟨u', h1, h2⟩ | h
    · unfold MM at h1
      simp only [List.mem_cons, List.not_mem_nil, or_false] at h1
      rcases h1 with rfl | rfl | rfl
      · have : cb = g := Option.some.inj h2
        exact .inr (by omega)
      · exact .inl ⟨_, by simp, h2⟩
      · exact .inl ⟨_, by simp, h2⟩
    · exact .inr (Nat.le_trans hb.size h)
theorem set7_row {b T : Nat} {W : World} {x0 x1 x2 x3 x4 x5 x6 : Value} (h : W.heap[b]? = some (.cells #[x0, x1, x2, x3, x4, x5, x6] T (0, 0))) (v0 v1 v2 v3 v4 v5 v6 : Value) : (((((((W.setCell ⟨b, 0, none⟩ v0).setCell ⟨b, 1, none⟩ v1).setCell ⟨b, 2, none⟩ v2).setCell ⟨b, 3, none⟩ v3).setCell ⟨b, 4, none⟩ v4).setCell ⟨b, 5, none⟩ v5).setCell ⟨b, 6, none⟩ v6).heap[b]? = some (.cells #[v0, v1, v2, v3, v4, v5, v6] T (0, 0)) := by
  have h0 : (W.setCell ⟨b, 0, none⟩ v0).heap[b]? = some (.cells #[v0, x1, x2, x3, x4, x5, x6] T (0, 0)) := heap_setCell_at h v0
  have h1 : ((W.setCell ⟨b, 0, none⟩ v0).setCell ⟨b, 1, none⟩ v1).heap[b]? = some (.cells #[v0, v1, x2, x3, x4, x5, x6] T (0, 0)) := heap_setCell_at h0 v1
  have h2 : (((W.setCell ⟨b, 0, none⟩ v0).setCell ⟨b, 1, none⟩ v1).setCell ⟨b, 2, none⟩ v2).heap[b]? = some (.cells #[v0, v1, v2, x3, x4, x5, x6] T (0, 0)) := heap_setCell_at h1 v2
  have h3 : ((((W.setCell ⟨b, 0, none⟩ v0).setCell ⟨b, 1, none⟩ v1).setCell ⟨b, 2, none⟩ v2).setCell ⟨b, 3, none⟩ v3).heap[b]? = some (.cells #[v0, v1, v2, v3, x4, x5, x6] T (0, 0)) := heap_setCell_at h2 v3
  have h4 : (((((W.setCell ⟨b, 0, none⟩ v0).setCell ⟨b, 1, none⟩ v1).setCell ⟨b, 2, none⟩ v2).setCell ⟨b, 3, none⟩ v3).setCell ⟨b, 4, none⟩ v4).heap[b]? = some (.cells #[v0, v1, v2, v3, v4, x5, x6] T (0, 0)) := heap_setCell_at h3 v4
  have h5 : ((((((W.setCell ⟨b, 0, none⟩ v0).setCell ⟨b, 1, none⟩ v1).setCell ⟨b, 2, none⟩ v2).setCell ⟨b, 3, none⟩ v3).setCell ⟨b, 4, none⟩ v4).setCell ⟨b, 5, none⟩ v5).heap[b]? = some (.cells #[v0, v1, v2, v3, v4, v5, x6] T (0, 0)) := heap_setCell_at h4 v5
  exact heap_setCell_at h5 v6
/-- Only a block's own cells differ. -/
def OnlyB (b : Nat) (w w' : World) : Prop := w'.os = w.os ∧ w'.tape = w.tape ∧ w'.output = w.output ∧ w'.heap.size = w.heap.size ∧ ∀ k, k ≠ b → w'.heap[k]? = w.heap[k]?
theorem OnlyB.refl (b : Nat) (w : World) : OnlyB b w w := ⟨rfl, rfl, rfl, rfl, fun _ _ => rfl⟩
theorem OnlyB.set {b : Nat} {w w' : World} (h : OnlyB b w w') (j : Nat) (v : Value) : OnlyB b w (w'.setCell ⟨b, j, none⟩ v) := ⟨h.1, h.2.1, h.2.2.1, by simpa [World.setCell] using h.2.2.2.1, fun k hk => (set_other hk).trans (h.2.2.2.2 k hk)⟩
theorem Step.back {mb : Nat} {M M' : List Value} {w we we' : World} (h : Step mb M M' w we) (hb : OnlyB mb we we') : Step mb M M w we' :=
  ⟨hb.1.trans h.os, hb.2.1.trans h.tape, hb.2.2.1.trans h.output, by rw [hb.2.2.2.1]; exact h.size, fun k hk hr hm => (hb.2.2.2.2 k hr).trans (h.block k hk hr hm), fun v hv g hg => .inl ⟨v, hv, hg⟩⟩
/-- A step that failed: the machine as it was, but for its state. -/
theorem McAt.back {B cb mb : Nat} {we we' : World} {ev sv ov ov' : Value} {s : McS} {m : McL} (hm : MiAt B cb mb we ev sv ov' s) (hst : s.1.st = m.st) (hold : we.ownsRow B 3 1 ov m.out.length (intV m.out)) (hap : Ap sv ov) (hb : OnlyB mb we we') (hr : we'.heap[mb]? = some (.cells (mcRow { m with stt := 2 } sv ov) 30 (0, 0))) : McAt B mb we' sv ov { m with stt := 2 } := by
  have ho : ov.ownBlock ≠ some mb := ne_types hold hm.mc.mr (by decide)
  refine ⟨hr, ?_, by dsimp only; rw [← hst]; exact hm.mc.ln, owns_blks hold (fun g hg => hb.2.2.2.2 g (fun e => ho (by rw [hg, e]))), hap⟩
  have h := hm.mc.st
  rw [hst] at h
  exact owns_blks h (fun g hg => hb.2.2.2.2 g (fun e => hm.mc.off.1 (by rw [hg, e])))
theorem decV_none {rc ra rn : Int} {rb : Bool} (h : decV none = .tuple #[.agg #[.int .i64 rc, .int .i64 ra], .int .i64 rn, .bool rb]) : rb = false := by
  unfold decV at h
  simp at h
  first | exact h.2.2 | exact h.2.2.symm
theorem decV_some {x : OpL} {n : Nat} {rc ra rn : Int} {rb : Bool} (h : decV (some (x, n)) = .tuple #[.agg #[.int .i64 rc, .int .i64 ra], .int .i64 rn, .bool rb]) : x.code = rc ∧ x.arg = ra ∧ (n : Int) = rn ∧ true = rb := by
  unfold decV at h
  simp at h
  exact ⟨h.1.1, h.1.2, h.2.1, by rw [h.2.2]⟩
theorem RelI.st {m0 m1 : McL} {s : McS} {o : Option McL} (h : RelI m0 s o) (e : m0.st = m1.st) : RelI m1 s o := by
  cases o with
  | none => exact ⟨h.1, h.2.trans e⟩
  | some m => exact h
theorem cells7 {w : World} {b T : Nat} {x0 x1 x2 x3 x4 x5 x6 : Value} (h : w.heap[b]? = some (.cells #[x0, x1, x2, x3, x4, x5, x6] T (0, 0))) : w.cell? ⟨b, 0, none⟩ = some x0 ∧ w.cell? ⟨b, 1, none⟩ = some x1 ∧ w.cell? ⟨b, 2, none⟩ = some x2 ∧ w.cell? ⟨b, 3, none⟩ = some x3 ∧ w.cell? ⟨b, 4, none⟩ = some x4 ∧ w.cell? ⟨b, 5, none⟩ = some x5 ∧ w.cell? ⟨b, 6, none⟩ = some x6 :=
  ⟨(blk h).1 0 _ rfl, (blk h).1 1 _ rfl, (blk h).1 2 _ rfl, (blk h).1 3 _ rfl, (blk h).1 4 _ rfl, (blk h).1 5 _ rfl, (blk h).1 6 _ rfl⟩
/-- What a step leaves. -/
def StepR (B mb : Nat) (sv ov : Value) (m' : McL) (w : World) (e : Ending) (w' : World) : Prop := e = .returned (.tuple #[]) ∧ ∃ ov', Hid (McAt B mb w' sv ov' m') ∧ Hid (Step mb [sv, ov] [sv, ov'] w w')

set_option maxRecDepth 100000 in
set_option maxHeartbeats 8000000 in
theorem i_step (x0 x1 : ImA) (b0 b1 : Int) (E : List Int) (a0 a1 a2 : Option Addr) (c0 c1 c2 B mb : Nat) (sv ov : Value) (m : McL) (w : World) (h : McAt B mb w sv ov m) (hB2 : B ≤ mb) (hm : McIs m) (hO : m.out.length ≤ 3000000)
    (hs : SpIs x0 x1 b0 b1 E) (hE64 : ∀ e ∈ E, I64 e) (hR : ∀ W, Below B w W → ReadIms W a0 [x0, x1] ∧ ReadI W a1 [b0, b1] ∧ ReadI W a2 E) :
    Calls Tryz.prog 29 #[.pointer (some ⟨mb, 0, none⟩), .agg #[.slice a0 2 c0, .slice a1 2 c1, .slice a2 E.length c2]] w (StepR B mb sv ov (stepM (fetS x0 x1 b0 b1) E m) w) := by
  obtain ⟨sg, sc, rfl⟩ := own_forms h.st (by rw [h.ln]; omega)
  obtain ⟨oa, oc, rfl⟩ := own_shM h.out
  rw [h.ln] at h ⊢
  obtain ⟨on, hon⟩ : ∃ x, m.out.length = x := ⟨_, rfl⟩
  rw [hon] at h hO ⊢
  have HON := Lib.hid hon
  have H := Lib.hid h
  have HM := Lib.hid hm
  have HS := Lib.hid hs
  have HE := Lib.hid hE64
  have HR := Lib.hid hR
  obtain ⟨FET, hFET⟩ : ∃ x, fetS x0 x1 b0 b1 = x := ⟨_, rfl⟩
  have HFET := Lib.hid hFET
  rw [hFET]
  have FE : Hid (∀ W, Below B w W → Calls Tryz.prog 51 #[.agg #[.slice a0 2 c0, .slice a1 2 c1, .slice a2 E.length c2], .int .i64 m.pc] W fun e w' => e = .returned (decV (FET m.pc)) ∧ Below W.heap.size W w') := Lib.hid (fun W hb => by
    obtain ⟨r1, r2, _⟩ := hR W hb
    have h := i_fetch x0 x1 b0 b1 m.pc a0 a1 a2 c0 c1 c2 E.length W r1 r2 hs.l0 hs.u0 hs.l1 hs.u1 (by have := hs.size0; omega) (by have := hs.size1; omega)
    rw [fetA_P] at h
    rw [← hFET]
    exact h)
  obtain ⟨rc, ra, rn, rb, hrv⟩ := decV_shape (FET m.pc)
  rw [hrv] at FE
  have HRV := Lib.hid hrv
  have hlt := h.lt
  have T2 := Lib.hid (two_new w (.cells #[.slice a0 2 c0, .slice a1 2 c1, .slice a2 E.length c2] 34) (.cells (mcRow m (.slice (some ⟨sg, 0, none⟩) 1200 sc) (.slice oa on oc)) 30))
  obtain ⟨W2, hW2⟩ : ∃ W, (w.alloc (.cells #[.slice a0 2 c0, .slice a1 2 c1, .slice a2 E.length c2] 34)).alloc (.cells (mcRow m (.slice (some ⟨sg, 0, none⟩) 1200 sc) (.slice oa on oc)) 30) = W := ⟨_, rfl⟩
  rw [hW2] at T2
  have HW2 := Lib.hid hW2
  clear hW2 hFET hrv hon
  obtain ⟨pc, sp, fp, st, out, stt, val⟩ := m
  have HB2 : Hid (Below w.heap.size w W2) := Lib.hid T2.out.2.2.2
  have hz2 : W2.heap.size = w.heap.size + 2 := T2.out.2.2.1
  have HBw : B ≤ w.heap.size := by omega
  obtain ⟨m0, m1, m2, m3, m4, m5, m6, gm⟩ := h.cells
  dsimp only at m0 m1 m2 m5 m6 FE hO
  unfold mcRow at HW2 T2
  dsimp only at HW2 T2
  clear h hm hs hE64 hR
  have HX : Hid (∀ W, Below W2.heap.size W2 W → W.cell? ⟨w.heap.size, 0, none⟩ = some (.slice a0 2 c0) ∧ W.cell? ⟨w.heap.size, 1, none⟩ = some (.slice a1 2 c1) ∧ W.cell? ⟨w.heap.size, 2, none⟩ = some (.slice a2 E.length c2) ∧ W.heap[w.heap.size + 1]? = some (.cells #[.int .i64 pc, .int .i64 sp, .int .i64 fp, .slice (some ⟨sg, 0, none⟩) 1200 sc, .slice oa on oc, .int .i64 stt, .int .i64 val] 30 (0, 0)) ∧ Below w.heap.size w W) := Lib.hid (fun W hb => by
    have hn := (hb.block w.heap.size (by omega)).trans T2.out.1
    have hn1 := (hb.block (w.heap.size + 1) (by omega)).trans T2.out.2.1
    exact ⟨(blk hn).1 0 _ rfl, (blk hn).1 1 _ rfl, (blk hn).1 2 _ rfl, hn1, HB2.out.trans (hb.mono (by omega))⟩)
  have K0 : Hid (∀ W, Below W2.heap.size W2 W → W.cell? ⟨w.heap.size, 0, none⟩ = some (.slice a0 2 c0) ∧ W.cell? ⟨w.heap.size, 1, none⟩ = some (.slice a1 2 c1) ∧ W.cell? ⟨w.heap.size, 2, none⟩ = some (.slice a2 E.length c2) ∧ W.cell? ⟨mb, 0, none⟩ = some (.int .i64 pc)) := Lib.hid (fun W hb => by
    obtain ⟨q0, q1, q2, _, q4⟩ := HX.out W hb
    have hc := (H.out.below q4).cells.1
    exact ⟨q0, q1, q2, hc⟩)
  have HZ2 : Hid (w.heap.size + 2 ≤ W2.heap.size) := Lib.hid (by omega)
  clear hz2
  go_enter Tryz.func29, Tryz.ntmps29
  go_upto_region 2 with fail
  rw [HW2.out]
  clear m0 m1 m2 m3 m4 m5 m6 gm
  refine E_start (S := (fun w' => w'.cell? ⟨w.heap.size, 0, none⟩ = some (.slice a0 2 c0) ∧ w'.cell? ⟨w.heap.size, 1, none⟩ = some (.slice a1 2 c1) ∧ w'.cell? ⟨w.heap.size, 2, none⟩ = some (.slice a2 E.length c2) ∧ w'.cell? ⟨mb, 0, none⟩ = some (.int .i64 pc))) 13 (by kernel_rfl) (K0.out _ (Below.refl _ _).drew) (fun hHeld => ?_)
  refine E_take (i := 0) (oi := _) (v := ?_) rfl (by kernel_rfl) (fun _ _ _ h => h) ?_ (by assumption) ?_
  rotate_left 1
  · (refine Or.inl ⟨by rfl, ?_⟩; intro w hSw; (try dsimp only at hSw); (try simp only [List.getElem_toArray, List.getElem_cons_zero, List.getElem_cons_succ]); go_simp; (first | done | with_reducible rfl))
  try simp only [Act.put, List.setIfInBounds_toArray, List.set_cons_zero, List.set_cons_succ, List.getElem_toArray, List.getElem_cons_zero, List.getElem_cons_succ]
  refine E_take (i := 1) (oi := _) (v := ?_) rfl (by kernel_rfl) (fun _ _ _ h => h) ?_ (by assumption) ?_
  rotate_left 1
  · (refine Or.inl ⟨by rfl, ?_⟩; intro w hSw; (try dsimp only at hSw); (try simp only [List.getElem_toArray, List.getElem_cons_zero, List.getElem_cons_succ]); go_simp; (first | done | with_reducible rfl))
  try simp only [Act.put, List.setIfInBounds_toArray, List.set_cons_zero, List.set_cons_succ, List.getElem_toArray, List.getElem_cons_zero, List.getElem_cons_succ]
  refine E_take (i := 2) (oi := _) (v := ?_) rfl (by kernel_rfl) (fun _ _ _ h => h) ?_ (by assumption) ?_
  rotate_left 1
  · (refine Or.inl ⟨by rfl, ?_⟩; intro w hSw; (try dsimp only at hSw); (try simp only [List.getElem_toArray, List.getElem_cons_zero, List.getElem_cons_succ]); go_simp; (first | done | with_reducible rfl))
  try simp only [Act.put, List.setIfInBounds_toArray, List.set_cons_zero, List.set_cons_succ, List.getElem_toArray, List.getElem_cons_zero, List.getElem_cons_succ]
  refine E_take (i := 3) (oi := _) (v := ?_) rfl (by kernel_rfl) (fun _ _ _ h => h) ?_ (by assumption) ?_
  rotate_left 1
  · (refine Or.inl ⟨by rfl, ?_⟩; intro w hSw; (try dsimp only at hSw); (try simp only [List.getElem_toArray, List.getElem_cons_zero, List.getElem_cons_succ]); go_simp; (first | done | with_reducible rfl))
  try simp only [Act.put, List.setIfInBounds_toArray, List.set_cons_zero, List.set_cons_succ, List.getElem_toArray, List.getElem_cons_zero, List.getElem_cons_succ]
  refine E_take (i := 4) (oi := _) (v := ?_) rfl (by kernel_rfl) (fun _ _ _ h => h) ?_ (by assumption) ?_
  rotate_left 1
  · (refine Or.inl ⟨by rfl, ?_⟩; intro w hSw; (try dsimp only at hSw); (try simp only [List.getElem_toArray, List.getElem_cons_zero, List.getElem_cons_succ]); go_simp; (first | done | with_reducible rfl))
  try simp only [Act.put, List.setIfInBounds_toArray, List.set_cons_zero, List.set_cons_succ, List.getElem_toArray, List.getElem_cons_zero, List.getElem_cons_succ]
  refine E_ready (rs := [5, 10]) (by kernel_rfl) (by decide) ?_
  refine AllE.cons (o := _) rfl (fun K hK => ?_) (AllE.cons (o := _) rfl (fun K hK => ?_) AllE.nil)
  · have HBD : Hid (Below B w W2.drew) := Lib.hid ((HB2.out.mono HBw).drew)
    try simp only [List.getElem_toArray, List.getElem_cons_zero, List.getElem_cons_succ]
    go_simp
    refine (FE.out _ (HBD.out)).mono ?_
    rintro e w3 ⟨rfl, b3⟩
    go_wp2_with fail
    have B3 : Hid (Below W2.heap.size W2 w3) := Lib.hid ((Below.refl W2.heap.size W2).drew.trans (b3.mono (Nat.le_refl _)))
    clear b3
    refine hK.out _ _ (K0.out _ B3.out) (fun hHeld => ?_)
    clear hK K
    try simp only [Act.put, List.setIfInBounds_toArray, List.set_cons_zero, List.set_cons_succ, List.getElem_toArray, List.getElem_cons_zero, List.getElem_cons_succ]
    refine E_take (i := 6) (oi := _) (v := ?_) rfl (by kernel_rfl) (fun _ _ _ h => h) ?_ (by assumption) ?_
    rotate_left 1
    · (refine Or.inl ⟨by rfl, ?_⟩; intro w hSw; (try dsimp only at hSw); (try simp only [List.getElem_toArray, List.getElem_cons_zero, List.getElem_cons_succ]); go_simp; (first | done | with_reducible rfl))
    try simp only [Act.put, List.setIfInBounds_toArray, List.set_cons_zero, List.set_cons_succ, List.getElem_toArray, List.getElem_cons_zero, List.getElem_cons_succ]
    refine E_take (i := 7) (oi := _) (v := ?_) rfl (by kernel_rfl) (fun _ _ _ h => h) ?_ (by assumption) ?_
    rotate_left 1
    · (refine Or.inl ⟨by rfl, ?_⟩; intro w hSw; (try dsimp only at hSw); (try simp only [List.getElem_toArray, List.getElem_cons_zero, List.getElem_cons_succ]); go_simp; (first | done | with_reducible rfl))
    try simp only [Act.put, List.setIfInBounds_toArray, List.set_cons_zero, List.set_cons_succ, List.getElem_toArray, List.getElem_cons_zero, List.getElem_cons_succ]
    refine E_take (i := 8) (oi := _) (v := ?_) rfl (by kernel_rfl) (fun _ _ _ h => h) ?_ (by assumption) ?_
    rotate_left 1
    · (refine Or.inl ⟨by rfl, ?_⟩; intro w hSw; (try dsimp only at hSw); (try simp only [List.getElem_toArray, List.getElem_cons_zero, List.getElem_cons_succ]); go_simp; (first | done | with_reducible rfl))
    try simp only [Act.put, List.setIfInBounds_toArray, List.set_cons_zero, List.set_cons_succ, List.getElem_toArray, List.getElem_cons_zero, List.getElem_cons_succ]
    refine E_take (i := 9) (oi := _) (v := ?_) rfl (by kernel_rfl) (fun _ _ _ h => h) ?_ (by assumption) ?_
    rotate_left 1
    · (refine Or.inl ⟨by rfl, ?_⟩; intro w hSw; (try dsimp only at hSw); (try simp only [List.getElem_toArray, List.getElem_cons_zero, List.getElem_cons_succ]); go_simp; (first | done | with_reducible rfl))
    try simp only [Act.put, List.setIfInBounds_toArray, List.set_cons_zero, List.set_cons_succ, List.getElem_toArray, List.getElem_cons_zero, List.getElem_cons_succ]
    refine E_ready (rs := [10]) (by kernel_rfl) (by decide) ?_
    refine AllE.cons (o := _) rfl (fun K hK => ?_) AllE.nil
    try simp only [List.getElem_toArray, List.getElem_cons_zero, List.getElem_cons_succ]
    go_simp
    refine hK.out _ _ (K0.out _ (B3.out.alloc B3.out.size _)) (fun hHeld => ?_)
    clear hK K
    try simp only [Act.put, List.setIfInBounds_toArray, List.set_cons_zero, List.set_cons_succ, List.getElem_toArray, List.getElem_cons_zero, List.getElem_cons_succ]
    refine E_ready (rs := [11]) (by kernel_rfl) (by decide) ?_
    refine AllE.cons (o := _) rfl (fun K hK => ?_) AllE.nil
    try simp only [List.getElem_toArray, List.getElem_cons_zero, List.getElem_cons_succ]
    go_simp
    refine hK.out _ _ (K0.out _ (B3.out.alloc B3.out.size _)) (fun hHeld => ?_)
    clear hK K
    try simp only [Act.put, List.setIfInBounds_toArray, List.set_cons_zero, List.set_cons_succ, List.getElem_toArray, List.getElem_cons_zero, List.getElem_cons_succ]
    refine E_take (i := 12) (oi := _) (v := ?_) rfl (by kernel_rfl) (fun _ _ _ h => h) ?_ (by assumption) ?_
    rotate_left 1
    · (refine Or.inl ⟨by rfl, ?_⟩; intro w hSw; (try dsimp only at hSw); (try simp only [List.getElem_toArray, List.getElem_cons_zero, List.getElem_cons_succ]); go_simp; (first | done | with_reducible rfl))
    try simp only [Act.put, List.setIfInBounds_toArray, List.set_cons_zero, List.set_cons_succ, List.getElem_toArray, List.getElem_cons_zero, List.getElem_cons_succ]
    refine E_last (o := _) (by kernel_rfl) rfl (by kernel_rfl) (fun K hK => ?_)
    try simp only [List.getElem_toArray, List.getElem_cons_zero, List.getElem_cons_succ]
    go_simp
    refine hK.out _ _ ?_
    clear hK K
    obtain ⟨W4, hW4⟩ : ∃ W, w3.alloc (.cells #[.int .i64 rc, .int .i64 ra] 75) = W := ⟨_, rfl⟩
    have B4 : Hid (Below W2.heap.size W2 W4) := Lib.hid (hW4 ▸ B3.out.alloc B3.out.size _)
    obtain ⟨xb, hxb⟩ : ∃ k, w3.heap.size = k := ⟨_, rfl⟩
    have P4 : Hid (W4.heap[xb]? = some (.cells #[.int .i64 rc, .int .i64 ra] 75 (0, 0))) := Lib.hid (by rw [← hW4, ← hxb]; exact heap_alloc_new w3 _)
    have hxb2 : W2.heap.size ≤ xb := by have := B3.out.size; omega
    rw [hW4, hxb]
    clear hW4 hxb B3
    have V4 := Lib.hid (HX.out W4 B4.out)
    have q2 := V4.out.2.2.1
    obtain ⟨cb, hcb⟩ : ∃ k, W4.heap.size = k := ⟨_, rfl⟩
    have hcbw : w.heap.size ≤ cb := by have := V4.out.2.2.2.2.size; omega
    obtain ⟨W5, hW5⟩ : ∃ W, W4.alloc (.cells #[.pointer (some ⟨mb, 0, none⟩), (.slice a2 E.length c2), .bool (!rb)] 92) = W := ⟨_, rfl⟩
    have HB5 : Hid (Below w.heap.size w W5) := Lib.hid (hW5 ▸ V4.out.2.2.2.2.alloc V4.out.2.2.2.2.size _)
    have MI5 : Hid (MiAt B cb mb W5 (.slice a2 E.length c2) (.slice (some ⟨sg, 0, none⟩) 1200 sc) (.slice oa on oc) (⟨pc, sp, fp, st, out, stt, val⟩, !rb)) := Lib.hid ⟨by rw [← hW5, ← hcb]; exact heap_alloc_new W4 _, H.out.below HB5.out⟩
    have PX5 : Hid (W5.heap[xb]? = some (.cells #[.int .i64 rc, .int .i64 ra] 75 (0, 0))) := Lib.hid (by rw [← hW5]; exact (Below.heap_alloc W4 _ _ (blk P4.out).2.2).trans P4.out)
    have PB5 : Hid (W5.heap[w.heap.size + 1]? = some (.cells #[.int .i64 pc, .int .i64 sp, .int .i64 fp, .slice (some ⟨sg, 0, none⟩) 1200 sc, .slice oa on oc, .int .i64 stt, .int .i64 val] 30 (0, 0))) := Lib.hid (by rw [← hW5]; exact (Below.heap_alloc W4 _ _ (blk V4.out.2.2.2.1).2.2).trans V4.out.2.2.2.1)
    have KBB : Hid (∀ W ov', Step mb (MM cb (.slice (some ⟨sg, 0, none⟩) 1200 sc) (.slice oa on oc)) (MM cb (.slice (some ⟨sg, 0, none⟩) 1200 sc) ov') W5 W → W.heap[w.heap.size + 1]? = some (.cells #[.int .i64 pc, .int .i64 sp, .int .i64 fp, .slice (some ⟨sg, 0, none⟩) 1200 sc, .slice oa on oc, .int .i64 stt, .int .i64 val] 30 (0, 0))) := Lib.hid (fun W ov' hS => hS.keep PB5.out (by omega) (fun u hu => by
      unfold MM at hu
      simp only [List.mem_cons, List.not_mem_nil, or_false] at hu
      rcases hu with rfl | rfl | rfl
      · intro e
        have e2 : cb = w.heap.size + 1 := Option.some.inj e
        have h1 := MI5.out.cr
        rw [e2, PB5.out] at h1
        injection h1 with h1
        injection h1 with _ h1 _
        exact absurd h1 (by decide)
      · exact ne_types MI5.out.mc.st PB5.out (by decide)
      · exact ne_types MI5.out.mc.out PB5.out (by decide)))
    have OLD5 : Hid (W5.ownsRow B 3 1 (.slice oa on oc) out.length (intV out)) := Lib.hid (by have h := MI5.out.mc.out; have e2 : out.length = on := HON.out; dsimp only at h; rw [e2] at h ⊢; exact h)
    cases hf : FET pc with
    | none =>
      obtain rfl : rb = false := decV_none (by have h := HRV.out; (try dsimp only at h); rw [hf] at h; exact h)
      obtain ⟨sz, hsz⟩ : ∃ x : McS, (⟨pc, sp, fp, st, out, stt, val⟩, true) = x := ⟨_, rfl⟩
      have MZ : Hid (MiAt B cb mb W5 (.slice a2 E.length c2) (.slice (some ⟨sg, 0, none⟩) 1200 sc) (.slice oa on oc) sz) := Lib.hid (by rw [← hsz]; exact MI5.out)
      have RZ : Hid (RelI ⟨pc, sp, fp, st, out, stt, val⟩ (endI sz) (stepO FET E ⟨pc, sp, fp, st, out, stt, val⟩)) := Lib.hid (by
        have e : stepO FET E ⟨pc, sp, fp, st, out, stt, val⟩ = none := by unfold stepO; dsimp only; rw [hf]; rfl
        rw [e, ← hsz]
        exact endI_bad ⟨rfl, rfl⟩)
      have SZ : Hid (Step mb (MM cb (.slice (some ⟨sg, 0, none⟩) 1200 sc) (.slice oa on oc)) (MM cb (.slice (some ⟨sg, 0, none⟩) 1200 sc) (.slice oa on oc)) W5 W5) := Lib.hid (Step.refl _ _ _)
      have OZ := OLD5
      obtain ⟨ovz, hovz⟩ : ∃ x : Value, (.slice oa on oc) = x := ⟨_, rfl⟩
      obtain ⟨wz, hwz⟩ : ∃ x, W5 = x := ⟨_, rfl⟩
      have HW5 : Hid (W4.alloc (.cells #[.pointer (some ⟨mb, 0, none⟩), (.slice a2 E.length c2), .bool true] 92) = wz) := Lib.hid (hW5.trans hwz)
      go_upto_region 4 with fail
      rw [HW5.out]
      have MZ : Hid (MiAt B cb mb wz (.slice a2 E.length c2) (.slice (some ⟨sg, 0, none⟩) 1200 sc) ovz sz) := Lib.hid (by rw [← hwz, ← hovz]; exact MZ.out)
      have SZ : Hid (Step mb (MM cb (.slice (some ⟨sg, 0, none⟩) 1200 sc) (.slice oa on oc)) (MM cb (.slice (some ⟨sg, 0, none⟩) 1200 sc) ovz) W5 wz) := Lib.hid (by rw [← hwz, ← hovz]; exact SZ.out)
      have OZ : Hid (wz.ownsRow B 3 1 (.slice oa on oc) out.length (intV out)) := Lib.hid (by rw [← hwz]; exact OZ.out)
      have AZ : Hid ((ovz = (.slice oa on oc) ∧ sz.1.out = out) ∨ sz.1.pc ≠ 0) := Lib.hid (.inl ⟨hovz.symm, by rw [← hsz]⟩)
      clear hW5 hcb hsz hovz hwz hf q2
      obtain ⟨pz, hpz⟩ : ∃ x, sz.1.pc = x := ⟨_, rfl⟩
      obtain ⟨spz, hspz⟩ : ∃ x, sz.1.sp = x := ⟨_, rfl⟩
      have HSP := Lib.hid hspz
      have HPZ := Lib.hid hpz
      have e0 := MZ.out.cells.1
      have m0 : wz.cell? ⟨mb, 0, none⟩ = some (.int .i64 pz) := by rw [← hpz]; exact MZ.out.mc.cells.1
      have K8 : Hid (wz.cell? ⟨cb, 0, none⟩ = some (.pointer (some ⟨mb, 0, none⟩)) ∧ wz.cell? ⟨mb, 1, none⟩ = some (.int .i64 spz)) := Lib.hid ⟨e0, by rw [← hspz]; exact MZ.out.mc.cells.2.1⟩
      have MD := Lib.hid (MZ.out.below (Below.refl _ _).drew)
      have SD : Hid (Step mb (MM cb (.slice (some ⟨sg, 0, none⟩) 1200 sc) (.slice oa on oc)) (MM cb (.slice (some ⟨sg, 0, none⟩) 1200 sc) ovz) W5 wz.drew) := Lib.hid (SZ.out.trans (Step.of_below (Below.refl _ _).drew))
      clear hpz hspz
      by_cases hp0 : pz = 0
      · subst hp0
        obtain ⟨HOV, HOO⟩ : Hid (ovz = (.slice oa on oc)) ∧ Hid (sz.1.out = out) := by
          rcases AZ.out with h | h
          · exact ⟨Lib.hid h.1, Lib.hid h.2⟩
          · exact absurd HPZ.out h
        go_upto_region 8 with fail
        clear e0 m0
        refine E_start (S := (fun w' => w'.cell? ⟨cb, 0, none⟩ = some (.pointer (some ⟨mb, 0, none⟩)) ∧ w'.cell? ⟨mb, 1, none⟩ = some (.int .i64 spz))) 15 (by kernel_rfl) (K8.out) (fun hHeld => ?_)
        refine E_take (i := 0) (oi := _) (v := ?_) rfl (by kernel_rfl) (fun _ _ _ h => h) ?_ (by assumption) ?_
        rotate_left 1
        · (refine Or.inl ⟨by rfl, ?_⟩; intro w hSw; (try dsimp only at hSw); (try simp only [List.getElem_toArray, List.getElem_cons_zero, List.getElem_cons_succ]); go_simp; (first | done | with_reducible rfl))
        try simp only [Act.put, List.setIfInBounds_toArray, List.set_cons_zero, List.set_cons_succ, List.getElem_toArray, List.getElem_cons_zero, List.getElem_cons_succ]
        refine E_take (i := 1) (oi := _) (v := ?_) rfl (by kernel_rfl) (fun _ _ _ h => h) ?_ (by assumption) ?_
        rotate_left 1
        · (refine Or.inl ⟨by rfl, ?_⟩; intro w hSw; (try dsimp only at hSw); (try simp only [List.getElem_toArray, List.getElem_cons_zero, List.getElem_cons_succ]); go_simp; (first | done | with_reducible rfl))
        try simp only [Act.put, List.setIfInBounds_toArray, List.set_cons_zero, List.set_cons_succ, List.getElem_toArray, List.getElem_cons_zero, List.getElem_cons_succ]
        refine E_take (i := 2) (oi := _) (v := ?_) rfl (by kernel_rfl) (fun _ _ _ h => h) ?_ (by assumption) ?_
        rotate_left 1
        · (refine Or.inl ⟨by rfl, ?_⟩; intro w hSw; (try dsimp only at hSw); (try simp only [List.getElem_toArray, List.getElem_cons_zero, List.getElem_cons_succ]); go_simp; (first | done | with_reducible rfl))
        try simp only [Act.put, List.setIfInBounds_toArray, List.set_cons_zero, List.set_cons_succ, List.getElem_toArray, List.getElem_cons_zero, List.getElem_cons_succ]
        refine E_take (i := 3) (oi := _) (v := ?_) rfl (by kernel_rfl) (fun _ _ _ h => h) ?_ (by assumption) ?_
        rotate_left 1
        · (refine Or.inl ⟨by rfl, ?_⟩; intro w hSw; (try dsimp only at hSw); (try simp only [List.getElem_toArray, List.getElem_cons_zero, List.getElem_cons_succ]); go_simp; (first | done | with_reducible rfl))
        try simp only [Act.put, List.setIfInBounds_toArray, List.set_cons_zero, List.set_cons_succ, List.getElem_toArray, List.getElem_cons_zero, List.getElem_cons_succ]
        refine E_take (i := 4) (oi := _) (v := ?_) rfl (by kernel_rfl) (fun _ _ _ h => h) ?_ (by assumption) ?_
        rotate_left 1
        · (refine Or.inl ⟨by rfl, ?_⟩; intro w hSw; (try dsimp only at hSw); (try simp only [List.getElem_toArray, List.getElem_cons_zero, List.getElem_cons_succ]); go_simp; (first | done | with_reducible rfl))
        try simp only [Act.put, List.setIfInBounds_toArray, List.set_cons_zero, List.set_cons_succ, List.getElem_toArray, List.getElem_cons_zero, List.getElem_cons_succ]
        refine E_take (i := 5) (oi := _) (v := ?_) rfl (by kernel_rfl) (fun _ _ _ h => h) ?_ (by assumption) ?_
        rotate_left 1
        · (refine Or.inl ⟨by rfl, ?_⟩; intro w hSw; (try dsimp only at hSw); (try simp only [List.getElem_toArray, List.getElem_cons_zero, List.getElem_cons_succ]); go_simp; (first | done | with_reducible rfl))
        try simp only [Act.put, List.setIfInBounds_toArray, List.set_cons_zero, List.set_cons_succ, List.getElem_toArray, List.getElem_cons_zero, List.getElem_cons_succ]
        refine E_take (i := 6) (oi := _) (v := ?_) rfl (by kernel_rfl) (fun _ _ _ h => h) ?_ (by assumption) ?_
        rotate_left 1
        · (refine Or.inl ⟨by rfl, ?_⟩; intro w hSw; (try dsimp only at hSw); (try simp only [List.getElem_toArray, List.getElem_cons_zero, List.getElem_cons_succ]); go_simp; (first | done | with_reducible rfl))
        try simp only [Act.put, List.setIfInBounds_toArray, List.set_cons_zero, List.set_cons_succ, List.getElem_toArray, List.getElem_cons_zero, List.getElem_cons_succ]
        refine E_take (i := 7) (oi := _) (v := ?_) rfl (by kernel_rfl) (fun _ _ _ h => h) ?_ (by assumption) ?_
        rotate_left 1
        · (refine Or.inl ⟨by rfl, ?_⟩; intro w hSw; (try dsimp only at hSw); (try simp only [List.getElem_toArray, List.getElem_cons_zero, List.getElem_cons_succ]); go_simp; (first | done | with_reducible rfl))
        try simp only [Act.put, List.setIfInBounds_toArray, List.set_cons_zero, List.set_cons_succ, List.getElem_toArray, List.getElem_cons_zero, List.getElem_cons_succ]
        refine E_take (i := 8) (oi := _) (v := ?_) rfl (by kernel_rfl) (fun _ _ _ h => h) ?_ (by assumption) ?_
        rotate_left 1
        · (refine Or.inl ⟨by rfl, ?_⟩; intro w hSw; (try dsimp only at hSw); (try simp only [List.getElem_toArray, List.getElem_cons_zero, List.getElem_cons_succ]); go_simp; (first | done | with_reducible rfl))
        try simp only [Act.put, List.setIfInBounds_toArray, List.set_cons_zero, List.set_cons_succ, List.getElem_toArray, List.getElem_cons_zero, List.getElem_cons_succ]
        refine E_ready (rs := [9]) (by kernel_rfl) (by decide) ?_
        refine AllE.cons (o := _) rfl (fun K hK => ?_) AllE.nil
        try simp only [List.getElem_toArray, List.getElem_cons_zero, List.getElem_cons_succ]
        go_simp
        refine (i_load MD.out spz).mono ?_
        rintro e w9 ⟨rfl, HC9, HS9⟩
        go_wp2_with fail
        have K9 : Hid (w9.cell? ⟨cb, 0, none⟩ = some (.pointer (some ⟨mb, 0, none⟩)) ∧ w9.cell? ⟨mb, 1, none⟩ = some (.int .i64 spz)) := Lib.hid ⟨HC9.out.cells.1, by have h := HC9.out.mc.cells.2.1; rw [load_m, HSP.out] at h; exact h⟩
        obtain ⟨_, _, _, _, _, y5, y6, gm9⟩ := HC9.out.mc.cells
        have hlt9 := HC9.out.mc.lt
        have A1 := Lib.hid (HC9.out.setSt 1)
        have A2 := Lib.hid (A1.out.1.setVl (loadIM sz spz).1)
        have K10 : Hid ((w9.setCell ⟨mb, 5, none⟩ (.int .i64 1)).cell? ⟨cb, 0, none⟩ = some (.pointer (some ⟨mb, 0, none⟩)) ∧ (w9.setCell ⟨mb, 5, none⟩ (.int .i64 1)).cell? ⟨mb, 1, none⟩ = some (.int .i64 spz)) := Lib.hid ⟨A1.out.1.cells.1, by have h := A1.out.1.mc.cells.2.1; dsimp only at h; rw [load_m, HSP.out] at h; exact h⟩
        refine hK.out _ _ (K9.out) (fun hHeld => ?_)
        clear hK K
        try simp only [Act.put, List.setIfInBounds_toArray, List.set_cons_zero, List.set_cons_succ, List.getElem_toArray, List.getElem_cons_zero, List.getElem_cons_succ]
        refine E_take (i := 10) (oi := _) (v := ?_) rfl (by kernel_rfl) (fun _ _ _ h => h) ?_ (by assumption) ?_
        rotate_left 1
        · (refine Or.inl ⟨by rfl, ?_⟩; intro w hSw; (try dsimp only at hSw); (try simp only [List.getElem_toArray, List.getElem_cons_zero, List.getElem_cons_succ]); go_simp; (first | done | with_reducible rfl))
        try simp only [Act.put, List.setIfInBounds_toArray, List.set_cons_zero, List.set_cons_succ, List.getElem_toArray, List.getElem_cons_zero, List.getElem_cons_succ]
        refine E_take (i := 11) (oi := _) (v := ?_) rfl (by kernel_rfl) (fun _ _ _ h => h) ?_ (by assumption) ?_
        rotate_left 1
        · (refine Or.inl ⟨by rfl, ?_⟩; intro w hSw; (try dsimp only at hSw); (try simp only [List.getElem_toArray, List.getElem_cons_zero, List.getElem_cons_succ]); go_simp; (first | done | with_reducible rfl))
        try simp only [Act.put, List.setIfInBounds_toArray, List.set_cons_zero, List.set_cons_succ, List.getElem_toArray, List.getElem_cons_zero, List.getElem_cons_succ]
        refine E_ready (rs := [12]) (by kernel_rfl) (by decide) ?_
        refine AllE.cons (o := _) rfl (fun K hK => ?_) AllE.nil
        try simp only [List.getElem_toArray, List.getElem_cons_zero, List.getElem_cons_succ]
        go_simp
        refine hK.out _ _ (K10.out) (fun hHeld => ?_)
        clear hK K
        try simp only [Act.put, List.setIfInBounds_toArray, List.set_cons_zero, List.set_cons_succ, List.getElem_toArray, List.getElem_cons_zero, List.getElem_cons_succ]
        refine E_take (i := 13) (oi := _) (v := ?_) rfl (by kernel_rfl) (fun _ _ _ h => h) ?_ (by assumption) ?_
        rotate_left 1
        · (refine Or.inl ⟨by rfl, ?_⟩; intro w hSw; (try dsimp only at hSw); (try simp only [List.getElem_toArray, List.getElem_cons_zero, List.getElem_cons_succ]); go_simp; (first | done | with_reducible rfl))
        try simp only [Act.put, List.setIfInBounds_toArray, List.set_cons_zero, List.set_cons_succ, List.getElem_toArray, List.getElem_cons_zero, List.getElem_cons_succ]
        refine E_take (i := 14) (oi := _) (v := ?_) rfl (by kernel_rfl) (fun _ _ _ h => h) ?_ (by assumption) ?_
        rotate_left 1
        · (refine Or.inl ⟨by rfl, ?_⟩; intro w hSw; (try dsimp only at hSw); (try simp only [List.getElem_toArray, List.getElem_cons_zero, List.getElem_cons_succ]); go_simp; (first | done | with_reducible rfl))
        try simp only [Act.put, List.setIfInBounds_toArray, List.set_cons_zero, List.set_cons_succ, List.getElem_toArray, List.getElem_cons_zero, List.getElem_cons_succ]
        refine E_last (o := _) (by kernel_rfl) rfl (by kernel_rfl) (fun K hK => ?_)
        try simp only [List.getElem_toArray, List.getElem_cons_zero, List.getElem_cons_succ]
        go_simp
        refine hK.out _ _ ?_
        clear hK K
        have EQE : Hid (endI sz = ({ (loadIM sz spz).2.1 with stt := 1, val := (loadIM sz spz).1 }, (loadIM sz spz).2.2)) := Lib.hid (by unfold endI; rw [if_pos HPZ.out, HSP.out])
        have ME0 := Lib.hid (A2.out.1.below (Below.refl _ _).drew)
        obtain ⟨se, hse⟩ : ∃ x : McS, ({ (loadIM sz spz).2.1 with stt := 1, val := (loadIM sz spz).1 }, (loadIM sz spz).2.2) = x := ⟨_, rfl⟩
        obtain ⟨we, hwe⟩ : ∃ W, (w9.setCell ⟨mb, 5, none⟩ (.int .i64 1)).setCell ⟨mb, 6, none⟩ (.int .i64 (loadIM sz spz).1) = W := ⟨_, rfl⟩
        have SE : Hid (Step mb (MM cb (.slice (some ⟨sg, 0, none⟩) 1200 sc) (.slice oa on oc)) (MM cb (.slice (some ⟨sg, 0, none⟩) 1200 sc) (.slice oa on oc)) W5 we) := Lib.hid (by
          have h := SD.out.trans (HS9.out.trans (A1.out.2.trans A2.out.2))
          rw [hwe, HOV.out] at h
          exact h)
        have ME : Hid (MiAt B cb mb we (.slice a2 E.length c2) (.slice (some ⟨sg, 0, none⟩) 1200 sc) (.slice oa on oc) se) := Lib.hid (by
          have h := A2.out.1
          rw [hwe, HOV.out] at h
          rw [← hse]
          exact h)
        have HSE : Hid (endI sz = se) := Lib.hid (by rw [EQE.out]; exact hse)
        have RE : Hid (RelI ⟨pc, sp, fp, st, out, stt, val⟩ se (stepO FET E ⟨pc, sp, fp, st, out, stt, val⟩)) := Lib.hid (by rw [← HSE.out]; exact RZ.out)
        have OE : Hid (we.ownsRow B 3 1 (.slice oa on oc) out.length (intV out)) := Lib.hid (by
          have h := ME.out.mc.out
          have e : se.1.out = out := by rw [← hse]; show (loadIM sz spz).2.1.out = out; rw [load_m]; exact HOO.out
          rw [e] at h
          rw [HON.out]
          have e2 : out.length = on := HON.out
          rw [e2] at h
          exact h)
        have KE := Lib.hid (KBB.out we _ SE.out)
        rw [hwe]
        clear hwe hse A1 A2 K8 K9 K10 y5 y6 gm9 hlt9 ME0
        obtain ⟨f9, hf9⟩ : ∃ x, se.2 = x := ⟨_, rfl⟩
        have e2 : we.cell? ⟨cb, 2, none⟩ = some (.bool f9) := by rw [← hf9]; exact ME.out.cells.2.2.1
        have HF9 := Lib.hid hf9
        clear hf9
        cases f9 with
        | true =>
          obtain ⟨HN1, HN2⟩ : Hid (stepM FET E ⟨pc, sp, fp, st, out, stt, val⟩ = ⟨pc, sp, fp, st, out, 2, val⟩) ∧ Hid (se.1.st = st) := by
            have hr := RE.out
            cases ho : stepO FET E ⟨pc, sp, fp, st, out, stt, val⟩ with
            | none => rw [ho] at hr; exact ⟨Lib.hid (step_none ho), Lib.hid hr.2⟩
            | some m' =>
              rw [ho] at hr
              have h1 : se = (m', false) := hr
              have h2 := HF9.out
              rw [h1] at h2
              cases h2
          obtain ⟨z0, z1, z2, z3, z4, z5, z6⟩ := cells7 KE.out
          have hr0 := ME.out.mc.mr
          obtain ⟨y0, y1, y2, y3, y4, y5, y6, gm⟩ := ME.out.mc.cells
          have hltm := ME.out.mc.lt
          have HRW := Lib.hid hr0
          clear hr0
          go_wp2
          go_end0
          rw [HN1.out]
          exact ⟨rfl, _, Lib.hid (McAt.back (s := se) (m := ⟨pc, sp, fp, st, out, stt, val⟩) ME.out HN2.out OE.out H.out.ap ((((((((((OnlyB.refl mb we).set 0 _).set 1 _).set 2 _).set 3 _).set 4 _).set 5 _).set 6 _)).set 5 _) (heap_setCell_at (set7_row HRW.out _ _ _ _ _ _ _) _)), Lib.hid (Step.back (Step.dropC HB5.out SE.out hcbw) (((((((((OnlyB.refl mb we).set 0 _).set 1 _).set 2 _).set 3 _).set 4 _).set 5 _).set 6 _).set 5 _))⟩
        | false =>
          obtain ⟨m', HN1, HN2⟩ : ∃ m', Hid (stepM FET E ⟨pc, sp, fp, st, out, stt, val⟩ = m') ∧ Hid (se = (m', false)) := by
            have hr := RE.out
            cases ho : stepO FET E ⟨pc, sp, fp, st, out, stt, val⟩ with
            | none =>
              rw [ho] at hr
              have h2 := hr.1
              rw [HF9.out] at h2
              cases h2
            | some m' => rw [ho] at hr; exact ⟨m', Lib.hid (step_some ho), Lib.hid hr⟩
          go_wp2
          go_end0
          rw [HN1.out]
          refine ⟨rfl, _, Lib.hid ?_, Lib.hid (Step.dropC HB5.out SE.out hcbw)⟩
          have h := ME.out.mc
          rw [HN2.out] at h
          exact h
      · have HSE : Hid (endI sz = sz) := Lib.hid (by unfold endI; rw [if_neg (by rw [HPZ.out]; exact hp0)])
        have d0 : (pz == 0) = false := by simpa using hp0
        have RE : Hid (RelI ⟨pc, sp, fp, st, out, stt, val⟩ sz (stepO FET E ⟨pc, sp, fp, st, out, stt, val⟩)) := Lib.hid (by have h := RZ.out; rw [HSE.out] at h; exact h)
        have ME := MZ
        have SE := SZ
        have OE := OZ
        have KE := Lib.hid (KBB.out wz _ SZ.out)
        clear hp0
        obtain ⟨f9, hf9⟩ : ∃ x, sz.2 = x := ⟨_, rfl⟩
        have e2 : wz.cell? ⟨cb, 2, none⟩ = some (.bool f9) := by rw [← hf9]; exact ME.out.cells.2.2.1
        have HF9 := Lib.hid hf9
        clear hf9
        cases f9 with
        | true =>
          obtain ⟨HN1, HN2⟩ : Hid (stepM FET E ⟨pc, sp, fp, st, out, stt, val⟩ = ⟨pc, sp, fp, st, out, 2, val⟩) ∧ Hid (sz.1.st = st) := by
            have hr := RE.out
            cases ho : stepO FET E ⟨pc, sp, fp, st, out, stt, val⟩ with
            | none => rw [ho] at hr; exact ⟨Lib.hid (step_none ho), Lib.hid hr.2⟩
            | some m' =>
              rw [ho] at hr
              have h1 : sz = (m', false) := hr
              have h2 := HF9.out
              rw [h1] at h2
              cases h2
          obtain ⟨z0, z1, z2, z3, z4, z5, z6⟩ := cells7 KE.out
          have hr0 := ME.out.mc.mr
          obtain ⟨y0, y1, y2, y3, y4, y5, y6, gm⟩ := ME.out.mc.cells
          have hltm := ME.out.mc.lt
          have HRW := Lib.hid hr0
          clear hr0
          go_wp2
          go_end0
          rw [HN1.out]
          exact ⟨rfl, _, Lib.hid (McAt.back (s := sz) (m := ⟨pc, sp, fp, st, out, stt, val⟩) ME.out HN2.out OE.out H.out.ap ((((((((((OnlyB.refl mb wz).set 0 _).set 1 _).set 2 _).set 3 _).set 4 _).set 5 _).set 6 _)).set 5 _) (heap_setCell_at (set7_row HRW.out _ _ _ _ _ _ _) _)), Lib.hid (Step.back (Step.dropC HB5.out SE.out hcbw) (((((((((OnlyB.refl mb wz).set 0 _).set 1 _).set 2 _).set 3 _).set 4 _).set 5 _).set 6 _).set 5 _))⟩
        | false =>
          obtain ⟨m', HN1, HN2⟩ : ∃ m', Hid (stepM FET E ⟨pc, sp, fp, st, out, stt, val⟩ = m') ∧ Hid (sz = (m', false)) := by
            have hr := RE.out
            cases ho : stepO FET E ⟨pc, sp, fp, st, out, stt, val⟩ with
            | none =>
              rw [ho] at hr
              have h2 := hr.1
              rw [HF9.out] at h2
              cases h2
            | some m' => rw [ho] at hr; exact ⟨m', Lib.hid (step_some ho), Lib.hid hr⟩
          go_wp2
          go_end0
          rw [HN1.out]
          refine ⟨rfl, _, Lib.hid ?_, Lib.hid (Step.dropC HB5.out SE.out hcbw)⟩
          have h := ME.out.mc
          rw [HN2.out] at h
          exact h
    | some y =>
      obtain ⟨⟨xc, xa⟩, xn⟩ := y
      obtain ⟨rfl, rfl, rfl, rfl⟩ := decV_some (by have h := HRV.out; (try dsimp only at h); rw [hf] at h; exact h)
      obtain ⟨hxo, hp1, hp2, hp3⟩ := fetS_is HS.out (a := pc) (x := ⟨xc, xa⟩) (n := xn) (by rw [HFET.out]; exact hf)
      have HXO := Lib.hid hxo
      have hc0 := hxo.1.1
      have hc1 := hxo.1.2
      dsimp only at hc0 hc1
      obtain ⟨cN, rfl⟩ : ∃ n : Nat, xc = (n : Int) := ⟨xc.toNat, (Int.toNat_of_nonneg hc0).symm⟩
      have hcN : cN < 18 := by omega
      have M5 : Hid (MiAt B cb mb W5 (.slice a2 E.length c2) (.slice (some ⟨sg, 0, none⟩) 1200 sc) (.slice oa on oc) (⟨pc, sp, fp, st, out, stt, val⟩, false)) := MI5
      have HP := Lib.hid (M5.out.setPc (pc + (xn : Int)))
      have up : IntKind.i64.wrap (pc + (xn : Int)) = pc + (xn : Int) := IntWalk.i64_in _ (by omega)
      have HW5 : Hid (W4.alloc (.cells #[.pointer (some ⟨mb, 0, none⟩), (.slice a2 E.length c2), .bool false] 92) = W5) := Lib.hid hW5
      have RS : Hid (RelI ⟨pc, sp, fp, st, out, stt, val⟩ (endI (perfI E ⟨(cN : Int), xa⟩ (⟨pc + (xn : Int), sp, fp, st, out, stt, val⟩, false))) (stepO FET E ⟨pc, sp, fp, st, out, stt, val⟩)) := Lib.hid (by
        have e : stepO FET E ⟨pc, sp, fp, st, out, stt, val⟩ = (perfO E ⟨(cN : Int), xa⟩ ⟨pc + (xn : Int), sp, fp, st, out, stt, val⟩).bind endO := by unfold stepO; dsimp only; rw [hf]; rfl
        rw [e]
        have hm := HM.out
        have h := rel_stepI E ⟨(cN : Int), xa⟩ ⟨pc + (xn : Int), sp, fp, st, out, stt, val⟩ ⟨hm.len, hm.ws, by unfold I64; dsimp only; omega, hm.s0, hm.s1, hm.fp⟩ HXO.out HE.out ⟨by dsimp only; omega, by dsimp only; omega⟩
        exact RelI.st h rfl)
      go_upto_region 4 with fail
      rw [HW5.out]
      have e0 := M5.out.cells.1
      obtain ⟨m0, _, _, _, _, _, _, gm⟩ := M5.out.mc.cells
      have hltm := M5.out.mc.lt
      dsimp only at m0
      go_upto_region 6 with fail
      obtain ⟨W6, hW6⟩ : ∃ W, W5.setCell ⟨mb, 0, none⟩ (.int .i64 (pc + (xn : Int))) = W := ⟨_, rfl⟩
      rw [hW6] at HP
      rw [hW6]
      have PX6 : Hid (∀ W, Below W6.heap.size W6 W → W.cell? ⟨xb, 0, none⟩ = some (.int .i64 (cN : Int)) ∧ W.cell? ⟨xb, 1, none⟩ = some (.int .i64 xa)) := Lib.hid (fun W hb => by
        have h5 : W6.heap[xb]? = some (.cells #[.int .i64 (cN : Int), .int .i64 xa] 75 (0, 0)) := by rw [← hW6]; exact (set_other (by have := HZ2.out; omega)).trans PX5.out
        have h6 := (hb.block xb (blk h5).2.2).trans h5
        exact ⟨(blk h6).1 0 _ rfl, (blk h6).1 1 _ rfl⟩)
      have HB6 : Hid (Below B w W6) := Lib.hid (by rw [← hW6]; exact (HB5.out.mono HBw).setCell hB2 _)
      clear hW5 hcb hf hW6 q2 m0 gm hltm e0 hxo hc0 hc1 up
      refine E_start (S := (fun w' => w'.cell? ⟨xb, 0, none⟩ = some (.int .i64 (cN : Int)) ∧ w'.cell? ⟨xb, 1, none⟩ = some (.int .i64 xa))) 4 (by kernel_rfl) (PX6.out _ (Below.refl _ _).drew) (fun hHeld => ?_)
      refine E_take (i := 0) (oi := _) (v := ?_) rfl (by kernel_rfl) (fun _ _ _ h => h) ?_ (by assumption) ?_
      rotate_left 1
      · (refine Or.inl ⟨by rfl, ?_⟩; intro w hSw; (try dsimp only at hSw); (try simp only [List.getElem_toArray, List.getElem_cons_zero, List.getElem_cons_succ]); go_simp; (first | done | with_reducible rfl))
      try simp only [Act.put, List.setIfInBounds_toArray, List.set_cons_zero, List.set_cons_succ, List.getElem_toArray, List.getElem_cons_zero, List.getElem_cons_succ]
      refine E_take (i := 1) (oi := _) (v := ?_) rfl (by kernel_rfl) (fun _ _ _ h => h) ?_ (by assumption) ?_
      rotate_left 1
      · (refine Or.inl ⟨by rfl, ?_⟩; intro w hSw; (try dsimp only at hSw); (try simp only [List.getElem_toArray, List.getElem_cons_zero, List.getElem_cons_succ]); go_simp; (first | done | with_reducible rfl))
      try simp only [Act.put, List.setIfInBounds_toArray, List.set_cons_zero, List.set_cons_succ, List.getElem_toArray, List.getElem_cons_zero, List.getElem_cons_succ]
      refine E_take (i := 3) (oi := _) (v := ?_) rfl (by kernel_rfl) (fun _ _ _ h => h) ?_ (by assumption) ?_
      rotate_left 1
      · (refine Or.inl ⟨by rfl, ?_⟩; intro w hSw; (try dsimp only at hSw); (try simp only [List.getElem_toArray, List.getElem_cons_zero, List.getElem_cons_succ]); go_simp; (first | done | with_reducible rfl))
      try simp only [Act.put, List.setIfInBounds_toArray, List.set_cons_zero, List.set_cons_succ, List.getElem_toArray, List.getElem_cons_zero, List.getElem_cons_succ]
      refine E_ready (rs := [2]) (by kernel_rfl) (by decide) ?_
      refine AllE.cons (o := _) rfl (fun K hK => ?_) AllE.nil
      try simp only [List.getElem_toArray, List.getElem_cons_zero, List.getElem_cons_succ]
      go_simp
      refine (i_instructionOf cN hcN _).mono ?_
      rintro e w7 ⟨rfl, b7⟩
      go_wp2_with fail
      have B7 : Hid (Below W6.heap.size W6 w7) := Lib.hid ((Below.refl W6.heap.size W6).drew.trans (b7.mono (Nat.le_refl _)))
      clear b7
      have PF := Lib.hid (i_perform a2 c2 E (HP.out.1.below B7.out) (fun W hb => (HR.out W ((HB6.out.trans (B7.out.mono (by have := HB6.out.size; omega))).trans hb)).2.2) (by omega) hB2 (by have h := HON.out; show out.length ≤ 4000000; omega) ⟨(cN : Int), xa⟩ HXO.out)
      dsimp only at PF
      rw [Int.toNat_natCast] at PF
      refine hK.out _ _ (PX6.out _ B7.out) (fun hHeld => ?_)
      clear hK K
      try simp only [Act.put, List.setIfInBounds_toArray, List.set_cons_zero, List.set_cons_succ, List.getElem_toArray, List.getElem_cons_zero, List.getElem_cons_succ]
      refine E_last (o := _) (by kernel_rfl) rfl (by kernel_rfl) (fun K hK => ?_)
      try simp only [List.getElem_toArray, List.getElem_cons_zero, List.getElem_cons_succ]
      go_simp
      rw [ins_enter cN hcN, Oper.upon_enter]
      refine PF.out.mono ?_
      rintro e wz ⟨rfl, ovz, MZ, SZ0, OZ, AZ0⟩
      go_wp2_with fail
      refine hK.out _ _ ?_
      clear hK K
      obtain ⟨sz, hsz⟩ : ∃ x : McS, perfI E ⟨(cN : Int), xa⟩ (⟨pc + (xn : Int), sp, fp, st, out, stt, val⟩, false) = x := ⟨_, rfl⟩
      rw [hsz] at MZ AZ0 RS
      have RZ := RS
      have SZ : Hid (Step mb (MM cb (.slice (some ⟨sg, 0, none⟩) 1200 sc) (.slice oa on oc)) (MM cb (.slice (some ⟨sg, 0, none⟩) 1200 sc) ovz) W5 wz) := Lib.hid ((HP.out.2.trans (Step.of_below B7.out)).trans SZ0.out)
      have AZ : Hid ((ovz = (.slice oa on oc) ∧ sz.1.out = out) ∨ sz.1.pc ≠ 0) := Lib.hid (by
        rcases AZ0.out with h | h
        · exact .inl h
        · exact .inr (by rw [h]; show pc + (xn : Int) ≠ 0; omega))
      clear hsz AZ0 SZ0 RS
      obtain ⟨pz, hpz⟩ : ∃ x, sz.1.pc = x := ⟨_, rfl⟩
      obtain ⟨spz, hspz⟩ : ∃ x, sz.1.sp = x := ⟨_, rfl⟩
      have HSP := Lib.hid hspz
      have HPZ := Lib.hid hpz
      have e0 := MZ.out.cells.1
      have m0 : wz.cell? ⟨mb, 0, none⟩ = some (.int .i64 pz) := by rw [← hpz]; exact MZ.out.mc.cells.1
      have K8 : Hid (wz.cell? ⟨cb, 0, none⟩ = some (.pointer (some ⟨mb, 0, none⟩)) ∧ wz.cell? ⟨mb, 1, none⟩ = some (.int .i64 spz)) := Lib.hid ⟨e0, by rw [← hspz]; exact MZ.out.mc.cells.2.1⟩
      have MD := Lib.hid (MZ.out.below (Below.refl _ _).drew)
      have SD : Hid (Step mb (MM cb (.slice (some ⟨sg, 0, none⟩) 1200 sc) (.slice oa on oc)) (MM cb (.slice (some ⟨sg, 0, none⟩) 1200 sc) ovz) W5 wz.drew) := Lib.hid (SZ.out.trans (Step.of_below (Below.refl _ _).drew))
      clear hpz hspz
      by_cases hp0 : pz = 0
      · subst hp0
        obtain ⟨HOV, HOO⟩ : Hid (ovz = (.slice oa on oc)) ∧ Hid (sz.1.out = out) := by
          rcases AZ.out with h | h
          · exact ⟨Lib.hid h.1, Lib.hid h.2⟩
          · exact absurd HPZ.out h
        go_upto_region 8 with fail
        clear e0 m0
        refine E_start (S := (fun w' => w'.cell? ⟨cb, 0, none⟩ = some (.pointer (some ⟨mb, 0, none⟩)) ∧ w'.cell? ⟨mb, 1, none⟩ = some (.int .i64 spz))) 15 (by kernel_rfl) (K8.out) (fun hHeld => ?_)
        refine E_take (i := 0) (oi := _) (v := ?_) rfl (by kernel_rfl) (fun _ _ _ h => h) ?_ (by assumption) ?_
        rotate_left 1
        · (refine Or.inl ⟨by rfl, ?_⟩; intro w hSw; (try dsimp only at hSw); (try simp only [List.getElem_toArray, List.getElem_cons_zero, List.getElem_cons_succ]); go_simp; (first | done | with_reducible rfl))
        try simp only [Act.put, List.setIfInBounds_toArray, List.set_cons_zero, List.set_cons_succ, List.getElem_toArray, List.getElem_cons_zero, List.getElem_cons_succ]
        refine E_take (i := 1) (oi := _) (v := ?_) rfl (by kernel_rfl) (fun _ _ _ h => h) ?_ (by assumption) ?_
        rotate_left 1
        · (refine Or.inl ⟨by rfl, ?_⟩; intro w hSw; (try dsimp only at hSw); (try simp only [List.getElem_toArray, List.getElem_cons_zero, List.getElem_cons_succ]); go_simp; (first | done | with_reducible rfl))
        try simp only [Act.put, List.setIfInBounds_toArray, List.set_cons_zero, List.set_cons_succ, List.getElem_toArray, List.getElem_cons_zero, List.getElem_cons_succ]
        refine E_take (i := 2) (oi := _) (v := ?_) rfl (by kernel_rfl) (fun _ _ _ h => h) ?_ (by assumption) ?_
        rotate_left 1
        · (refine Or.inl ⟨by rfl, ?_⟩; intro w hSw; (try dsimp only at hSw); (try simp only [List.getElem_toArray, List.getElem_cons_zero, List.getElem_cons_succ]); go_simp; (first | done | with_reducible rfl))
        try simp only [Act.put, List.setIfInBounds_toArray, List.set_cons_zero, List.set_cons_succ, List.getElem_toArray, List.getElem_cons_zero, List.getElem_cons_succ]
        refine E_take (i := 3) (oi := _) (v := ?_) rfl (by kernel_rfl) (fun _ _ _ h => h) ?_ (by assumption) ?_
        rotate_left 1
        · (refine Or.inl ⟨by rfl, ?_⟩; intro w hSw; (try dsimp only at hSw); (try simp only [List.getElem_toArray, List.getElem_cons_zero, List.getElem_cons_succ]); go_simp; (first | done | with_reducible rfl))
        try simp only [Act.put, List.setIfInBounds_toArray, List.set_cons_zero, List.set_cons_succ, List.getElem_toArray, List.getElem_cons_zero, List.getElem_cons_succ]
        refine E_take (i := 4) (oi := _) (v := ?_) rfl (by kernel_rfl) (fun _ _ _ h => h) ?_ (by assumption) ?_
        rotate_left 1
        · (refine Or.inl ⟨by rfl, ?_⟩; intro w hSw; (try dsimp only at hSw); (try simp only [List.getElem_toArray, List.getElem_cons_zero, List.getElem_cons_succ]); go_simp; (first | done | with_reducible rfl))
        try simp only [Act.put, List.setIfInBounds_toArray, List.set_cons_zero, List.set_cons_succ, List.getElem_toArray, List.getElem_cons_zero, List.getElem_cons_succ]
        refine E_take (i := 5) (oi := _) (v := ?_) rfl (by kernel_rfl) (fun _ _ _ h => h) ?_ (by assumption) ?_
        rotate_left 1
        · (refine Or.inl ⟨by rfl, ?_⟩; intro w hSw; (try dsimp only at hSw); (try simp only [List.getElem_toArray, List.getElem_cons_zero, List.getElem_cons_succ]); go_simp; (first | done | with_reducible rfl))
        try simp only [Act.put, List.setIfInBounds_toArray, List.set_cons_zero, List.set_cons_succ, List.getElem_toArray, List.getElem_cons_zero, List.getElem_cons_succ]
        refine E_take (i := 6) (oi := _) (v := ?_) rfl (by kernel_rfl) (fun _ _ _ h => h) ?_ (by assumption) ?_
        rotate_left 1
        · (refine Or.inl ⟨by rfl, ?_⟩; intro w hSw; (try dsimp only at hSw); (try simp only [List.getElem_toArray, List.getElem_cons_zero, List.getElem_cons_succ]); go_simp; (first | done | with_reducible rfl))
        try simp only [Act.put, List.setIfInBounds_toArray, List.set_cons_zero, List.set_cons_succ, List.getElem_toArray, List.getElem_cons_zero, List.getElem_cons_succ]
        refine E_take (i := 7) (oi := _) (v := ?_) rfl (by kernel_rfl) (fun _ _ _ h => h) ?_ (by assumption) ?_
        rotate_left 1
        · (refine Or.inl ⟨by rfl, ?_⟩; intro w hSw; (try dsimp only at hSw); (try simp only [List.getElem_toArray, List.getElem_cons_zero, List.getElem_cons_succ]); go_simp; (first | done | with_reducible rfl))
        try simp only [Act.put, List.setIfInBounds_toArray, List.set_cons_zero, List.set_cons_succ, List.getElem_toArray, List.getElem_cons_zero, List.getElem_cons_succ]
        refine E_take (i := 8) (oi := _) (v := ?_) rfl (by kernel_rfl) (fun _ _ _ h => h) ?_ (by assumption) ?_
        rotate_left 1
        · (refine Or.inl ⟨by rfl, ?_⟩; intro w hSw; (try dsimp only at hSw); (try simp only [List.getElem_toArray, List.getElem_cons_zero, List.getElem_cons_succ]); go_simp; (first | done | with_reducible rfl))
        try simp only [Act.put, List.setIfInBounds_toArray, List.set_cons_zero, List.set_cons_succ, List.getElem_toArray, List.getElem_cons_zero, List.getElem_cons_succ]
        refine E_ready (rs := [9]) (by kernel_rfl) (by decide) ?_
        refine AllE.cons (o := _) rfl (fun K hK => ?_) AllE.nil
        try simp only [List.getElem_toArray, List.getElem_cons_zero, List.getElem_cons_succ]
        go_simp
        refine (i_load MD.out spz).mono ?_
        rintro e w9 ⟨rfl, HC9, HS9⟩
        go_wp2_with fail
        have K9 : Hid (w9.cell? ⟨cb, 0, none⟩ = some (.pointer (some ⟨mb, 0, none⟩)) ∧ w9.cell? ⟨mb, 1, none⟩ = some (.int .i64 spz)) := Lib.hid ⟨HC9.out.cells.1, by have h := HC9.out.mc.cells.2.1; rw [load_m, HSP.out] at h; exact h⟩
        obtain ⟨_, _, _, _, _, y5, y6, gm9⟩ := HC9.out.mc.cells
        have hlt9 := HC9.out.mc.lt
        have A1 := Lib.hid (HC9.out.setSt 1)
        have A2 := Lib.hid (A1.out.1.setVl (loadIM sz spz).1)
        have K10 : Hid ((w9.setCell ⟨mb, 5, none⟩ (.int .i64 1)).cell? ⟨cb, 0, none⟩ = some (.pointer (some ⟨mb, 0, none⟩)) ∧ (w9.setCell ⟨mb, 5, none⟩ (.int .i64 1)).cell? ⟨mb, 1, none⟩ = some (.int .i64 spz)) := Lib.hid ⟨A1.out.1.cells.1, by have h := A1.out.1.mc.cells.2.1; dsimp only at h; rw [load_m, HSP.out] at h; exact h⟩
        refine hK.out _ _ (K9.out) (fun hHeld => ?_)
        clear hK K
        try simp only [Act.put, List.setIfInBounds_toArray, List.set_cons_zero, List.set_cons_succ, List.getElem_toArray, List.getElem_cons_zero, List.getElem_cons_succ]
        refine E_take (i := 10) (oi := _) (v := ?_) rfl (by kernel_rfl) (fun _ _ _ h => h) ?_ (by assumption) ?_
        rotate_left 1
        · (refine Or.inl ⟨by rfl, ?_⟩; intro w hSw; (try dsimp only at hSw); (try simp only [List.getElem_toArray, List.getElem_cons_zero, List.getElem_cons_succ]); go_simp; (first | done | with_reducible rfl))
        try simp only [Act.put, List.setIfInBounds_toArray, List.set_cons_zero, List.set_cons_succ, List.getElem_toArray, List.getElem_cons_zero, List.getElem_cons_succ]
        refine E_take (i := 11) (oi := _) (v := ?_) rfl (by kernel_rfl) (fun _ _ _ h => h) ?_ (by assumption) ?_
        rotate_left 1
        · (refine Or.inl ⟨by rfl, ?_⟩; intro w hSw; (try dsimp only at hSw); (try simp only [List.getElem_toArray, List.getElem_cons_zero, List.getElem_cons_succ]); go_simp; (first | done | with_reducible rfl))
        try simp only [Act.put, List.setIfInBounds_toArray, List.set_cons_zero, List.set_cons_succ, List.getElem_toArray, List.getElem_cons_zero, List.getElem_cons_succ]
        refine E_ready (rs := [12]) (by kernel_rfl) (by decide) ?_
        refine AllE.cons (o := _) rfl (fun K hK => ?_) AllE.nil
        try simp only [List.getElem_toArray, List.getElem_cons_zero, List.getElem_cons_succ]
        go_simp
        refine hK.out _ _ (K10.out) (fun hHeld => ?_)
        clear hK K
        try simp only [Act.put, List.setIfInBounds_toArray, List.set_cons_zero, List.set_cons_succ, List.getElem_toArray, List.getElem_cons_zero, List.getElem_cons_succ]
        refine E_take (i := 13) (oi := _) (v := ?_) rfl (by kernel_rfl) (fun _ _ _ h => h) ?_ (by assumption) ?_
        rotate_left 1
        · (refine Or.inl ⟨by rfl, ?_⟩; intro w hSw; (try dsimp only at hSw); (try simp only [List.getElem_toArray, List.getElem_cons_zero, List.getElem_cons_succ]); go_simp; (first | done | with_reducible rfl))
        try simp only [Act.put, List.setIfInBounds_toArray, List.set_cons_zero, List.set_cons_succ, List.getElem_toArray, List.getElem_cons_zero, List.getElem_cons_succ]
        refine E_take (i := 14) (oi := _) (v := ?_) rfl (by kernel_rfl) (fun _ _ _ h => h) ?_ (by assumption) ?_
        rotate_left 1
        · (refine Or.inl ⟨by rfl, ?_⟩; intro w hSw; (try dsimp only at hSw); (try simp only [List.getElem_toArray, List.getElem_cons_zero, List.getElem_cons_succ]); go_simp; (first | done | with_reducible rfl))
        try simp only [Act.put, List.setIfInBounds_toArray, List.set_cons_zero, List.set_cons_succ, List.getElem_toArray, List.getElem_cons_zero, List.getElem_cons_succ]
        refine E_last (o := _) (by kernel_rfl) rfl (by kernel_rfl) (fun K hK => ?_)
        try simp only [List.getElem_toArray, List.getElem_cons_zero, List.getElem_cons_succ]
        go_simp
        refine hK.out _ _ ?_
        clear hK K
        have EQE : Hid (endI sz = ({ (loadIM sz spz).2.1 with stt := 1, val := (loadIM sz spz).1 }, (loadIM sz spz).2.2)) := Lib.hid (by unfold endI; rw [if_pos HPZ.out, HSP.out])
        have ME0 := Lib.hid (A2.out.1.below (Below.refl _ _).drew)
        obtain ⟨se, hse⟩ : ∃ x : McS, ({ (loadIM sz spz).2.1 with stt := 1, val := (loadIM sz spz).1 }, (loadIM sz spz).2.2) = x := ⟨_, rfl⟩
        obtain ⟨we, hwe⟩ : ∃ W, (w9.setCell ⟨mb, 5, none⟩ (.int .i64 1)).setCell ⟨mb, 6, none⟩ (.int .i64 (loadIM sz spz).1) = W := ⟨_, rfl⟩
        have SE : Hid (Step mb (MM cb (.slice (some ⟨sg, 0, none⟩) 1200 sc) (.slice oa on oc)) (MM cb (.slice (some ⟨sg, 0, none⟩) 1200 sc) (.slice oa on oc)) W5 we) := Lib.hid (by
          have h := SD.out.trans (HS9.out.trans (A1.out.2.trans A2.out.2))
          rw [hwe, HOV.out] at h
          exact h)
        have ME : Hid (MiAt B cb mb we (.slice a2 E.length c2) (.slice (some ⟨sg, 0, none⟩) 1200 sc) (.slice oa on oc) se) := Lib.hid (by
          have h := A2.out.1
          rw [hwe, HOV.out] at h
          rw [← hse]
          exact h)
        have HSE : Hid (endI sz = se) := Lib.hid (by rw [EQE.out]; exact hse)
        have RE : Hid (RelI ⟨pc, sp, fp, st, out, stt, val⟩ se (stepO FET E ⟨pc, sp, fp, st, out, stt, val⟩)) := Lib.hid (by rw [← HSE.out]; exact RZ.out)
        have OE : Hid (we.ownsRow B 3 1 (.slice oa on oc) out.length (intV out)) := Lib.hid (by
          have h := ME.out.mc.out
          have e : se.1.out = out := by rw [← hse]; show (loadIM sz spz).2.1.out = out; rw [load_m]; exact HOO.out
          rw [e] at h
          rw [HON.out]
          have e2 : out.length = on := HON.out
          rw [e2] at h
          exact h)
        have KE := Lib.hid (KBB.out we _ SE.out)
        rw [hwe]
        clear hwe hse A1 A2 K8 K9 K10 y5 y6 gm9 hlt9 ME0
        obtain ⟨f9, hf9⟩ : ∃ x, se.2 = x := ⟨_, rfl⟩
        have e2 : we.cell? ⟨cb, 2, none⟩ = some (.bool f9) := by rw [← hf9]; exact ME.out.cells.2.2.1
        have HF9 := Lib.hid hf9
        clear hf9
        cases f9 with
        | true =>
          obtain ⟨HN1, HN2⟩ : Hid (stepM FET E ⟨pc, sp, fp, st, out, stt, val⟩ = ⟨pc, sp, fp, st, out, 2, val⟩) ∧ Hid (se.1.st = st) := by
            have hr := RE.out
            cases ho : stepO FET E ⟨pc, sp, fp, st, out, stt, val⟩ with
            | none => rw [ho] at hr; exact ⟨Lib.hid (step_none ho), Lib.hid hr.2⟩
            | some m' =>
              rw [ho] at hr
              have h1 : se = (m', false) := hr
              have h2 := HF9.out
              rw [h1] at h2
              cases h2
          obtain ⟨z0, z1, z2, z3, z4, z5, z6⟩ := cells7 KE.out
          have hr0 := ME.out.mc.mr
          obtain ⟨y0, y1, y2, y3, y4, y5, y6, gm⟩ := ME.out.mc.cells
          have hltm := ME.out.mc.lt
          have HRW := Lib.hid hr0
          clear hr0
          go_wp2
          go_end0
          rw [HN1.out]
          exact ⟨rfl, _, Lib.hid (McAt.back (s := se) (m := ⟨pc, sp, fp, st, out, stt, val⟩) ME.out HN2.out OE.out H.out.ap ((((((((((OnlyB.refl mb we).set 0 _).set 1 _).set 2 _).set 3 _).set 4 _).set 5 _).set 6 _)).set 5 _) (heap_setCell_at (set7_row HRW.out _ _ _ _ _ _ _) _)), Lib.hid (Step.back (Step.dropC HB5.out SE.out hcbw) (((((((((OnlyB.refl mb we).set 0 _).set 1 _).set 2 _).set 3 _).set 4 _).set 5 _).set 6 _).set 5 _))⟩
        | false =>
          obtain ⟨m', HN1, HN2⟩ : ∃ m', Hid (stepM FET E ⟨pc, sp, fp, st, out, stt, val⟩ = m') ∧ Hid (se = (m', false)) := by
            have hr := RE.out
            cases ho : stepO FET E ⟨pc, sp, fp, st, out, stt, val⟩ with
            | none =>
              rw [ho] at hr
              have h2 := hr.1
              rw [HF9.out] at h2
              cases h2
            | some m' => rw [ho] at hr; exact ⟨m', Lib.hid (step_some ho), Lib.hid hr⟩
          go_wp2
          go_end0
          rw [HN1.out]
          refine ⟨rfl, _, Lib.hid ?_, Lib.hid (Step.dropC HB5.out SE.out hcbw)⟩
          have h := ME.out.mc
          rw [HN2.out] at h
          exact h
      · have HSE : Hid (endI sz = sz) := Lib.hid (by unfold endI; rw [if_neg (by rw [HPZ.out]; exact hp0)])
        have d0 : (pz == 0) = false := by simpa using hp0
        have RE : Hid (RelI ⟨pc, sp, fp, st, out, stt, val⟩ sz (stepO FET E ⟨pc, sp, fp, st, out, stt, val⟩)) := Lib.hid (by have h := RZ.out; rw [HSE.out] at h; exact h)
        have ME := MZ
        have SE := SZ
        have OE := OZ
        have KE := Lib.hid (KBB.out wz _ SZ.out)
        clear hp0
        obtain ⟨f9, hf9⟩ : ∃ x, sz.2 = x := ⟨_, rfl⟩
        have e2 : wz.cell? ⟨cb, 2, none⟩ = some (.bool f9) := by rw [← hf9]; exact ME.out.cells.2.2.1
        have HF9 := Lib.hid hf9
        clear hf9
        cases f9 with
        | true =>
          obtain ⟨HN1, HN2⟩ : Hid (stepM FET E ⟨pc, sp, fp, st, out, stt, val⟩ = ⟨pc, sp, fp, st, out, 2, val⟩) ∧ Hid (sz.1.st = st) := by
            have hr := RE.out
            cases ho : stepO FET E ⟨pc, sp, fp, st, out, stt, val⟩ with
            | none => rw [ho] at hr; exact ⟨Lib.hid (step_none ho), Lib.hid hr.2⟩
            | some m' =>
              rw [ho] at hr
              have h1 : sz = (m', false) := hr
              have h2 := HF9.out
              rw [h1] at h2
              cases h2
          obtain ⟨z0, z1, z2, z3, z4, z5, z6⟩ := cells7 KE.out
          have hr0 := ME.out.mc.mr
          obtain ⟨y0, y1, y2, y3, y4, y5, y6, gm⟩ := ME.out.mc.cells
          have hltm := ME.out.mc.lt
          have HRW := Lib.hid hr0
          clear hr0
          go_wp2
          go_end0
          rw [HN1.out]
          exact ⟨rfl, _, Lib.hid (McAt.back (s := sz) (m := ⟨pc, sp, fp, st, out, stt, val⟩) ME.out HN2.out OE.out H.out.ap ((((((((((OnlyB.refl mb wz).set 0 _).set 1 _).set 2 _).set 3 _).set 4 _).set 5 _).set 6 _)).set 5 _) (heap_setCell_at (set7_row HRW.out _ _ _ _ _ _ _) _)), Lib.hid (Step.back (Step.dropC HB5.out SE.out hcbw) (((((((((OnlyB.refl mb wz).set 0 _).set 1 _).set 2 _).set 3 _).set 4 _).set 5 _).set 6 _).set 5 _))⟩
        | false =>
          obtain ⟨m', HN1, HN2⟩ : ∃ m', Hid (stepM FET E ⟨pc, sp, fp, st, out, stt, val⟩ = m') ∧ Hid (sz = (m', false)) := by
            have hr := RE.out
            cases ho : stepO FET E ⟨pc, sp, fp, st, out, stt, val⟩ with
            | none =>
              rw [ho] at hr
              have h2 := hr.1
              rw [HF9.out] at h2
              cases h2
            | some m' => rw [ho] at hr; exact ⟨m', Lib.hid (step_some ho), Lib.hid hr⟩
          go_wp2
          go_end0
          rw [HN1.out]
          refine ⟨rfl, _, Lib.hid ?_, Lib.hid (Step.dropC HB5.out SE.out hcbw)⟩
          have h := ME.out.mc
          rw [HN2.out] at h
          exact h
  · have HBA : Hid (Below W2.heap.size W2 (W2.drew.alloc (.cells #[.int .i64 0, .int .i64 0] 75))) := Lib.hid ((Below.refl W2.heap.size W2).drew.alloc (Nat.le_refl _) _)
    have HBB : Hid (Below B w (W2.drew.alloc (.cells #[.int .i64 0, .int .i64 0] 75))) := Lib.hid ((HB2.out.mono HBw).drew.alloc (by show B ≤ W2.heap.size; have := HZ2.out; omega) _)
    try simp only [List.getElem_toArray, List.getElem_cons_zero, List.getElem_cons_succ]
    go_simp
    refine hK.out _ _ (K0.out _ HBA.out) (fun hHeld => ?_)
    clear hK K
    try simp only [Act.put, List.setIfInBounds_toArray, List.set_cons_zero, List.set_cons_succ, List.getElem_toArray, List.getElem_cons_zero, List.getElem_cons_succ]
    refine E_ready (rs := [5]) (by kernel_rfl) (by decide) ?_
    refine AllE.cons (o := _) rfl (fun K hK => ?_) AllE.nil
    try simp only [List.getElem_toArray, List.getElem_cons_zero, List.getElem_cons_succ]
    go_simp
    refine (FE.out _ (HBB.out)).mono ?_
    rintro e w3 ⟨rfl, b3⟩
    go_wp2_with fail
    have B3 : Hid (Below W2.heap.size W2 w3) := Lib.hid (HBA.out.trans (b3.mono (by have := HBA.out.size; exact this)))
    have P3 : Hid (w3.heap[W2.heap.size]? = some (.cells #[.int .i64 0, .int .i64 0] 75 (0, 0))) := Lib.hid ((b3.block _ (by simp)).trans (heap_alloc_new W2.drew _))
    have p0 := (blk P3.out).1 0 _ rfl
    have p1 := (blk P3.out).1 1 _ rfl
    have g3 := (blk P3.out).2.1
    have l3 := (blk P3.out).2.2
    have B3s : Hid (Below W2.heap.size W2 ((w3.setCell ⟨W2.heap.size, 0, none⟩ (.int .i64 rc)).setCell ⟨W2.heap.size, 1, none⟩ (.int .i64 ra))) := Lib.hid ((B3.out.setCell (Nat.le_refl _) _).setCell (Nat.le_refl _) _)
    clear b3
    refine hK.out _ _ (K0.out _ B3.out) (fun hHeld => ?_)
    clear hK K
    try simp only [Act.put, List.setIfInBounds_toArray, List.set_cons_zero, List.set_cons_succ, List.getElem_toArray, List.getElem_cons_zero, List.getElem_cons_succ]
    refine E_take (i := 6) (oi := _) (v := ?_) rfl (by kernel_rfl) (fun _ _ _ h => h) ?_ (by assumption) ?_
    rotate_left 1
    · (refine Or.inl ⟨by rfl, ?_⟩; intro w hSw; (try dsimp only at hSw); (try simp only [List.getElem_toArray, List.getElem_cons_zero, List.getElem_cons_succ]); go_simp; (first | done | with_reducible rfl))
    try simp only [Act.put, List.setIfInBounds_toArray, List.set_cons_zero, List.set_cons_succ, List.getElem_toArray, List.getElem_cons_zero, List.getElem_cons_succ]
    refine E_take (i := 7) (oi := _) (v := ?_) rfl (by kernel_rfl) (fun _ _ _ h => h) ?_ (by assumption) ?_
    rotate_left 1
    · (refine Or.inl ⟨by rfl, ?_⟩; intro w hSw; (try dsimp only at hSw); (try simp only [List.getElem_toArray, List.getElem_cons_zero, List.getElem_cons_succ]); go_simp; (first | done | with_reducible rfl))
    try simp only [Act.put, List.setIfInBounds_toArray, List.set_cons_zero, List.set_cons_succ, List.getElem_toArray, List.getElem_cons_zero, List.getElem_cons_succ]
    refine E_take (i := 8) (oi := _) (v := ?_) rfl (by kernel_rfl) (fun _ _ _ h => h) ?_ (by assumption) ?_
    rotate_left 1
    · (refine Or.inl ⟨by rfl, ?_⟩; intro w hSw; (try dsimp only at hSw); (try simp only [List.getElem_toArray, List.getElem_cons_zero, List.getElem_cons_succ]); go_simp; (first | done | with_reducible rfl))
    try simp only [Act.put, List.setIfInBounds_toArray, List.set_cons_zero, List.set_cons_succ, List.getElem_toArray, List.getElem_cons_zero, List.getElem_cons_succ]
    refine E_take (i := 9) (oi := _) (v := ?_) rfl (by kernel_rfl) (fun _ _ _ h => h) ?_ (by assumption) ?_
    rotate_left 1
    · (refine Or.inl ⟨by rfl, ?_⟩; intro w hSw; (try dsimp only at hSw); (try simp only [List.getElem_toArray, List.getElem_cons_zero, List.getElem_cons_succ]); go_simp; (first | done | with_reducible rfl))
    try simp only [Act.put, List.setIfInBounds_toArray, List.set_cons_zero, List.set_cons_succ, List.getElem_toArray, List.getElem_cons_zero, List.getElem_cons_succ]
    refine E_ready (rs := [11]) (by kernel_rfl) (by decide) ?_
    refine AllE.cons (o := _) rfl (fun K hK => ?_) AllE.nil
    try simp only [List.getElem_toArray, List.getElem_cons_zero, List.getElem_cons_succ]
    go_simp
    refine hK.out _ _ (K0.out _ B3s.out) (fun hHeld => ?_)
    clear hK K
    try simp only [Act.put, List.setIfInBounds_toArray, List.set_cons_zero, List.set_cons_succ, List.getElem_toArray, List.getElem_cons_zero, List.getElem_cons_succ]
    refine E_take (i := 12) (oi := _) (v := ?_) rfl (by kernel_rfl) (fun _ _ _ h => h) ?_ (by assumption) ?_
    rotate_left 1
    · (refine Or.inl ⟨by rfl, ?_⟩; intro w hSw; (try dsimp only at hSw); (try simp only [List.getElem_toArray, List.getElem_cons_zero, List.getElem_cons_succ]); go_simp; (first | done | with_reducible rfl))
    try simp only [Act.put, List.setIfInBounds_toArray, List.set_cons_zero, List.set_cons_succ, List.getElem_toArray, List.getElem_cons_zero, List.getElem_cons_succ]
    refine E_last (o := _) (by kernel_rfl) rfl (by kernel_rfl) (fun K hK => ?_)
    try simp only [List.getElem_toArray, List.getElem_cons_zero, List.getElem_cons_succ]
    go_simp
    refine hK.out _ _ ?_
    clear hK K
    obtain ⟨W4, hW4⟩ : ∃ W, (w3.setCell ⟨W2.heap.size, 0, none⟩ (.int .i64 rc)).setCell ⟨W2.heap.size, 1, none⟩ (.int .i64 ra) = W := ⟨_, rfl⟩
    have B4 : Hid (Below W2.heap.size W2 W4) := Lib.hid (hW4 ▸ B3s.out)
    obtain ⟨xb, hxb⟩ : ∃ k, W2.heap.size = k := ⟨_, rfl⟩
    have P4 : Hid (W4.heap[xb]? = some (.cells #[.int .i64 rc, .int .i64 ra] 75 (0, 0))) := Lib.hid (by rw [← hW4, ← hxb]; exact heap_setCell_at (heap_setCell_at P3.out _) _)
    have hxb2 : W2.heap.size ≤ xb := by omega
    rw [hW4, hxb]
    clear hW4 B3 B3s P3 HBA HBB p0 p1 g3 l3
    clear hxb
    have V4 := Lib.hid (HX.out W4 B4.out)
    have q2 := V4.out.2.2.1
    obtain ⟨cb, hcb⟩ : ∃ k, W4.heap.size = k := ⟨_, rfl⟩
    have hcbw : w.heap.size ≤ cb := by have := V4.out.2.2.2.2.size; omega
    obtain ⟨W5, hW5⟩ : ∃ W, W4.alloc (.cells #[.pointer (some ⟨mb, 0, none⟩), (.slice a2 E.length c2), .bool (!rb)] 92) = W := ⟨_, rfl⟩
    have HB5 : Hid (Below w.heap.size w W5) := Lib.hid (hW5 ▸ V4.out.2.2.2.2.alloc V4.out.2.2.2.2.size _)
    have MI5 : Hid (MiAt B cb mb W5 (.slice a2 E.length c2) (.slice (some ⟨sg, 0, none⟩) 1200 sc) (.slice oa on oc) (⟨pc, sp, fp, st, out, stt, val⟩, !rb)) := Lib.hid ⟨by rw [← hW5, ← hcb]; exact heap_alloc_new W4 _, H.out.below HB5.out⟩
    have PX5 : Hid (W5.heap[xb]? = some (.cells #[.int .i64 rc, .int .i64 ra] 75 (0, 0))) := Lib.hid (by rw [← hW5]; exact (Below.heap_alloc W4 _ _ (blk P4.out).2.2).trans P4.out)
    have PB5 : Hid (W5.heap[w.heap.size + 1]? = some (.cells #[.int .i64 pc, .int .i64 sp, .int .i64 fp, .slice (some ⟨sg, 0, none⟩) 1200 sc, .slice oa on oc, .int .i64 stt, .int .i64 val] 30 (0, 0))) := Lib.hid (by rw [← hW5]; exact (Below.heap_alloc W4 _ _ (blk V4.out.2.2.2.1).2.2).trans V4.out.2.2.2.1)
    have KBB : Hid (∀ W ov', Step mb (MM cb (.slice (some ⟨sg, 0, none⟩) 1200 sc) (.slice oa on oc)) (MM cb (.slice (some ⟨sg, 0, none⟩) 1200 sc) ov') W5 W → W.heap[w.heap.size + 1]? = some (.cells #[.int .i64 pc, .int .i64 sp, .int .i64 fp, .slice (some ⟨sg, 0, none⟩) 1200 sc, .slice oa on oc, .int .i64 stt, .int .i64 val] 30 (0, 0))) := Lib.hid (fun W ov' hS => hS.keep PB5.out (by omega) (fun u hu => by
      unfold MM at hu
      simp only [List.mem_cons, List.not_mem_nil, or_false] at hu
      rcases hu with rfl | rfl | rfl
      · intro e
        have e2 : cb = w.heap.size + 1 := Option.some.inj e
        have h1 := MI5.out.cr
        rw [e2, PB5.out] at h1
        injection h1 with h1
        injection h1 with _ h1 _
        exact absurd h1 (by decide)
      · exact ne_types MI5.out.mc.st PB5.out (by decide)
      · exact ne_types MI5.out.mc.out PB5.out (by decide)))
    have OLD5 : Hid (W5.ownsRow B 3 1 (.slice oa on oc) out.length (intV out)) := Lib.hid (by have h := MI5.out.mc.out; have e2 : out.length = on := HON.out; dsimp only at h; rw [e2] at h ⊢; exact h)
    cases hf : FET pc with
    | none =>
      obtain rfl : rb = false := decV_none (by have h := HRV.out; (try dsimp only at h); rw [hf] at h; exact h)
      obtain ⟨sz, hsz⟩ : ∃ x : McS, (⟨pc, sp, fp, st, out, stt, val⟩, true) = x := ⟨_, rfl⟩
      have MZ : Hid (MiAt B cb mb W5 (.slice a2 E.length c2) (.slice (some ⟨sg, 0, none⟩) 1200 sc) (.slice oa on oc) sz) := Lib.hid (by rw [← hsz]; exact MI5.out)
      have RZ : Hid (RelI ⟨pc, sp, fp, st, out, stt, val⟩ (endI sz) (stepO FET E ⟨pc, sp, fp, st, out, stt, val⟩)) := Lib.hid (by
        have e : stepO FET E ⟨pc, sp, fp, st, out, stt, val⟩ = none := by unfold stepO; dsimp only; rw [hf]; rfl
        rw [e, ← hsz]
        exact endI_bad ⟨rfl, rfl⟩)
      have SZ : Hid (Step mb (MM cb (.slice (some ⟨sg, 0, none⟩) 1200 sc) (.slice oa on oc)) (MM cb (.slice (some ⟨sg, 0, none⟩) 1200 sc) (.slice oa on oc)) W5 W5) := Lib.hid (Step.refl _ _ _)
      have OZ := OLD5
      obtain ⟨ovz, hovz⟩ : ∃ x : Value, (.slice oa on oc) = x := ⟨_, rfl⟩
      obtain ⟨wz, hwz⟩ : ∃ x, W5 = x := ⟨_, rfl⟩
      have HW5 : Hid (W4.alloc (.cells #[.pointer (some ⟨mb, 0, none⟩), (.slice a2 E.length c2), .bool true] 92) = wz) := Lib.hid (hW5.trans hwz)
      go_upto_region 4 with fail
      rw [HW5.out]
      have MZ : Hid (MiAt B cb mb wz (.slice a2 E.length c2) (.slice (some ⟨sg, 0, none⟩) 1200 sc) ovz sz) := Lib.hid (by rw [← hwz, ← hovz]; exact MZ.out)
      have SZ : Hid (Step mb (MM cb (.slice (some ⟨sg, 0, none⟩) 1200 sc) (.slice oa on oc)) (MM cb (.slice (some ⟨sg, 0, none⟩) 1200 sc) ovz) W5 wz) := Lib.hid (by rw [← hwz, ← hovz]; exact SZ.out)
      have OZ : Hid (wz.ownsRow B 3 1 (.slice oa on oc) out.length (intV out)) := Lib.hid (by rw [← hwz]; exact OZ.out)
      have AZ : Hid ((ovz = (.slice oa on oc) ∧ sz.1.out = out) ∨ sz.1.pc ≠ 0) := Lib.hid (.inl ⟨hovz.symm, by rw [← hsz]⟩)
      clear hW5 hcb hsz hovz hwz hf q2
      obtain ⟨pz, hpz⟩ : ∃ x, sz.1.pc = x := ⟨_, rfl⟩
      obtain ⟨spz, hspz⟩ : ∃ x, sz.1.sp = x := ⟨_, rfl⟩
      have HSP := Lib.hid hspz
      have HPZ := Lib.hid hpz
      have e0 := MZ.out.cells.1
      have m0 : wz.cell? ⟨mb, 0, none⟩ = some (.int .i64 pz) := by rw [← hpz]; exact MZ.out.mc.cells.1
      have K8 : Hid (wz.cell? ⟨cb, 0, none⟩ = some (.pointer (some ⟨mb, 0, none⟩)) ∧ wz.cell? ⟨mb, 1, none⟩ = some (.int .i64 spz)) := Lib.hid ⟨e0, by rw [← hspz]; exact MZ.out.mc.cells.2.1⟩
      have MD := Lib.hid (MZ.out.below (Below.refl _ _).drew)
      have SD : Hid (Step mb (MM cb (.slice (some ⟨sg, 0, none⟩) 1200 sc) (.slice oa on oc)) (MM cb (.slice (some ⟨sg, 0, none⟩) 1200 sc) ovz) W5 wz.drew) := Lib.hid (SZ.out.trans (Step.of_below (Below.refl _ _).drew))
      clear hpz hspz
      by_cases hp0 : pz = 0
      · subst hp0
        obtain ⟨HOV, HOO⟩ : Hid (ovz = (.slice oa on oc)) ∧ Hid (sz.1.out = out) := by
          rcases AZ.out with h | h
          · exact ⟨Lib.hid h.1, Lib.hid h.2⟩
          · exact absurd HPZ.out h
        go_upto_region 8 with fail
        clear e0 m0
        refine E_start (S := (fun w' => w'.cell? ⟨cb, 0, none⟩ = some (.pointer (some ⟨mb, 0, none⟩)) ∧ w'.cell? ⟨mb, 1, none⟩ = some (.int .i64 spz))) 15 (by kernel_rfl) (K8.out) (fun hHeld => ?_)
        refine E_take (i := 0) (oi := _) (v := ?_) rfl (by kernel_rfl) (fun _ _ _ h => h) ?_ (by assumption) ?_
        rotate_left 1
        · (refine Or.inl ⟨by rfl, ?_⟩; intro w hSw; (try dsimp only at hSw); (try simp only [List.getElem_toArray, List.getElem_cons_zero, List.getElem_cons_succ]); go_simp; (first | done | with_reducible rfl))
        try simp only [Act.put, List.setIfInBounds_toArray, List.set_cons_zero, List.set_cons_succ, List.getElem_toArray, List.getElem_cons_zero, List.getElem_cons_succ]
        refine E_take (i := 1) (oi := _) (v := ?_) rfl (by kernel_rfl) (fun _ _ _ h => h) ?_ (by assumption) ?_
        rotate_left 1
        · (refine Or.inl ⟨by rfl, ?_⟩; intro w hSw; (try dsimp only at hSw); (try simp only [List.getElem_toArray, List.getElem_cons_zero, List.getElem_cons_succ]); go_simp; (first | done | with_reducible rfl))
        try simp only [Act.put, List.setIfInBounds_toArray, List.set_cons_zero, List.set_cons_succ, List.getElem_toArray, List.getElem_cons_zero, List.getElem_cons_succ]
        refine E_take (i := 2) (oi := _) (v := ?_) rfl (by kernel_rfl) (fun _ _ _ h => h) ?_ (by assumption) ?_
        rotate_left 1
        · (refine Or.inl ⟨by rfl, ?_⟩; intro w hSw; (try dsimp only at hSw); (try simp only [List.getElem_toArray, List.getElem_cons_zero, List.getElem_cons_succ]); go_simp; (first | done | with_reducible rfl))
        try simp only [Act.put, List.setIfInBounds_toArray, List.set_cons_zero, List.set_cons_succ, List.getElem_toArray, List.getElem_cons_zero, List.getElem_cons_succ]
        refine E_take (i := 3) (oi := _) (v := ?_) rfl (by kernel_rfl) (fun _ _ _ h => h) ?_ (by assumption) ?_
        rotate_left 1
        · (refine Or.inl ⟨by rfl, ?_⟩; intro w hSw; (try dsimp only at hSw); (try simp only [List.getElem_toArray, List.getElem_cons_zero, List.getElem_cons_succ]); go_simp; (first | done | with_reducible rfl))
        try simp only [Act.put, List.setIfInBounds_toArray, List.set_cons_zero, List.set_cons_succ, List.getElem_toArray, List.getElem_cons_zero, List.getElem_cons_succ]
        refine E_take (i := 4) (oi := _) (v := ?_) rfl (by kernel_rfl) (fun _ _ _ h => h) ?_ (by assumption) ?_
        rotate_left 1
        · (refine Or.inl ⟨by rfl, ?_⟩; intro w hSw; (try dsimp only at hSw); (try simp only [List.getElem_toArray, List.getElem_cons_zero, List.getElem_cons_succ]); go_simp; (first | done | with_reducible rfl))
        try simp only [Act.put, List.setIfInBounds_toArray, List.set_cons_zero, List.set_cons_succ, List.getElem_toArray, List.getElem_cons_zero, List.getElem_cons_succ]
        refine E_take (i := 5) (oi := _) (v := ?_) rfl (by kernel_rfl) (fun _ _ _ h => h) ?_ (by assumption) ?_
        rotate_left 1
        · (refine Or.inl ⟨by rfl, ?_⟩; intro w hSw; (try dsimp only at hSw); (try simp only [List.getElem_toArray, List.getElem_cons_zero, List.getElem_cons_succ]); go_simp; (first | done | with_reducible rfl))
        try simp only [Act.put, List.setIfInBounds_toArray, List.set_cons_zero, List.set_cons_succ, List.getElem_toArray, List.getElem_cons_zero, List.getElem_cons_succ]
        refine E_take (i := 6) (oi := _) (v := ?_) rfl (by kernel_rfl) (fun _ _ _ h => h) ?_ (by assumption) ?_
        rotate_left 1
        · (refine Or.inl ⟨by rfl, ?_⟩; intro w hSw; (try dsimp only at hSw); (try simp only [List.getElem_toArray, List.getElem_cons_zero, List.getElem_cons_succ]); go_simp; (first | done | with_reducible rfl))
        try simp only [Act.put, List.setIfInBounds_toArray, List.set_cons_zero, List.set_cons_succ, List.getElem_toArray, List.getElem_cons_zero, List.getElem_cons_succ]
        refine E_take (i := 7) (oi := _) (v := ?_) rfl (by kernel_rfl) (fun _ _ _ h => h) ?_ (by assumption) ?_
        rotate_left 1
        · (refine Or.inl ⟨by rfl, ?_⟩; intro w hSw; (try dsimp only at hSw); (try simp only [List.getElem_toArray, List.getElem_cons_zero, List.getElem_cons_succ]); go_simp; (first | done | with_reducible rfl))
        try simp only [Act.put, List.setIfInBounds_toArray, List.set_cons_zero, List.set_cons_succ, List.getElem_toArray, List.getElem_cons_zero, List.getElem_cons_succ]
        refine E_take (i := 8) (oi := _) (v := ?_) rfl (by kernel_rfl) (fun _ _ _ h => h) ?_ (by assumption) ?_
        rotate_left 1
        · (refine Or.inl ⟨by rfl, ?_⟩; intro w hSw; (try dsimp only at hSw); (try simp only [List.getElem_toArray, List.getElem_cons_zero, List.getElem_cons_succ]); go_simp; (first | done | with_reducible rfl))
        try simp only [Act.put, List.setIfInBounds_toArray, List.set_cons_zero, List.set_cons_succ, List.getElem_toArray, List.getElem_cons_zero, List.getElem_cons_succ]
        refine E_ready (rs := [9]) (by kernel_rfl) (by decide) ?_
        refine AllE.cons (o := _) rfl (fun K hK => ?_) AllE.nil
        try simp only [List.getElem_toArray, List.getElem_cons_zero, List.getElem_cons_succ]
        go_simp
        refine (i_load MD.out spz).mono ?_
        rintro e w9 ⟨rfl, HC9, HS9⟩
        go_wp2_with fail
        have K9 : Hid (w9.cell? ⟨cb, 0, none⟩ = some (.pointer (some ⟨mb, 0, none⟩)) ∧ w9.cell? ⟨mb, 1, none⟩ = some (.int .i64 spz)) := Lib.hid ⟨HC9.out.cells.1, by have h := HC9.out.mc.cells.2.1; rw [load_m, HSP.out] at h; exact h⟩
        obtain ⟨_, _, _, _, _, y5, y6, gm9⟩ := HC9.out.mc.cells
        have hlt9 := HC9.out.mc.lt
        have A1 := Lib.hid (HC9.out.setSt 1)
        have A2 := Lib.hid (A1.out.1.setVl (loadIM sz spz).1)
        have K10 : Hid ((w9.setCell ⟨mb, 5, none⟩ (.int .i64 1)).cell? ⟨cb, 0, none⟩ = some (.pointer (some ⟨mb, 0, none⟩)) ∧ (w9.setCell ⟨mb, 5, none⟩ (.int .i64 1)).cell? ⟨mb, 1, none⟩ = some (.int .i64 spz)) := Lib.hid ⟨A1.out.1.cells.1, by have h := A1.out.1.mc.cells.2.1; dsimp only at h; rw [load_m, HSP.out] at h; exact h⟩
        refine hK.out _ _ (K9.out) (fun hHeld => ?_)
        clear hK K
        try simp only [Act.put, List.setIfInBounds_toArray, List.set_cons_zero, List.set_cons_succ, List.getElem_toArray, List.getElem_cons_zero, List.getElem_cons_succ]
        refine E_take (i := 10) (oi := _) (v := ?_) rfl (by kernel_rfl) (fun _ _ _ h => h) ?_ (by assumption) ?_
        rotate_left 1
        · (refine Or.inl ⟨by rfl, ?_⟩; intro w hSw; (try dsimp only at hSw); (try simp only [List.getElem_toArray, List.getElem_cons_zero, List.getElem_cons_succ]); go_simp; (first | done | with_reducible rfl))
        try simp only [Act.put, List.setIfInBounds_toArray, List.set_cons_zero, List.set_cons_succ, List.getElem_toArray, List.getElem_cons_zero, List.getElem_cons_succ]
        refine E_take (i := 11) (oi := _) (v := ?_) rfl (by kernel_rfl) (fun _ _ _ h => h) ?_ (by assumption) ?_
        rotate_left 1
        · (refine Or.inl ⟨by rfl, ?_⟩; intro w hSw; (try dsimp only at hSw); (try simp only [List.getElem_toArray, List.getElem_cons_zero, List.getElem_cons_succ]); go_simp; (first | done | with_reducible rfl))
        try simp only [Act.put, List.setIfInBounds_toArray, List.set_cons_zero, List.set_cons_succ, List.getElem_toArray, List.getElem_cons_zero, List.getElem_cons_succ]
        refine E_ready (rs := [12]) (by kernel_rfl) (by decide) ?_
        refine AllE.cons (o := _) rfl (fun K hK => ?_) AllE.nil
        try simp only [List.getElem_toArray, List.getElem_cons_zero, List.getElem_cons_succ]
        go_simp
        refine hK.out _ _ (K10.out) (fun hHeld => ?_)
        clear hK K
        try simp only [Act.put, List.setIfInBounds_toArray, List.set_cons_zero, List.set_cons_succ, List.getElem_toArray, List.getElem_cons_zero, List.getElem_cons_succ]
        refine E_take (i := 13) (oi := _) (v := ?_) rfl (by kernel_rfl) (fun _ _ _ h => h) ?_ (by assumption) ?_
        rotate_left 1
        · (refine Or.inl ⟨by rfl, ?_⟩; intro w hSw; (try dsimp only at hSw); (try simp only [List.getElem_toArray, List.getElem_cons_zero, List.getElem_cons_succ]); go_simp; (first | done | with_reducible rfl))
        try simp only [Act.put, List.setIfInBounds_toArray, List.set_cons_zero, List.set_cons_succ, List.getElem_toArray, List.getElem_cons_zero, List.getElem_cons_succ]
        refine E_take (i := 14) (oi := _) (v := ?_) rfl (by kernel_rfl) (fun _ _ _ h => h) ?_ (by assumption) ?_
        rotate_left 1
        · (refine Or.inl ⟨by rfl, ?_⟩; intro w hSw; (try dsimp only at hSw); (try simp only [List.getElem_toArray, List.getElem_cons_zero, List.getElem_cons_succ]); go_simp; (first | done | with_reducible rfl))
        try simp only [Act.put, List.setIfInBounds_toArray, List.set_cons_zero, List.set_cons_succ, List.getElem_toArray, List.getElem_cons_zero, List.getElem_cons_succ]
        refine E_last (o := _) (by kernel_rfl) rfl (by kernel_rfl) (fun K hK => ?_)
        try simp only [List.getElem_toArray, List.getElem_cons_zero, List.getElem_cons_succ]
        go_simp
        refine hK.out _ _ ?_
        clear hK K
        have EQE : Hid (endI sz = ({ (loadIM sz spz).2.1 with stt := 1, val := (loadIM sz spz).1 }, (loadIM sz spz).2.2)) := Lib.hid (by unfold endI; rw [if_pos HPZ.out, HSP.out])
        have ME0 := Lib.hid (A2.out.1.below (Below.refl _ _).drew)
        obtain ⟨se, hse⟩ : ∃ x : McS, ({ (loadIM sz spz).2.1 with stt := 1, val := (loadIM sz spz).1 }, (loadIM sz spz).2.2) = x := ⟨_, rfl⟩
        obtain ⟨we, hwe⟩ : ∃ W, (w9.setCell ⟨mb, 5, none⟩ (.int .i64 1)).setCell ⟨mb, 6, none⟩ (.int .i64 (loadIM sz spz).1) = W := ⟨_, rfl⟩
        have SE : Hid (Step mb (MM cb (.slice (some ⟨sg, 0, none⟩) 1200 sc) (.slice oa on oc)) (MM cb (.slice (some ⟨sg, 0, none⟩) 1200 sc) (.slice oa on oc)) W5 we) := Lib.hid (by
          have h := SD.out.trans (HS9.out.trans (A1.out.2.trans A2.out.2))
          rw [hwe, HOV.out] at h
          exact h)
        have ME : Hid (MiAt B cb mb we (.slice a2 E.length c2) (.slice (some ⟨sg, 0, none⟩) 1200 sc) (.slice oa on oc) se) := Lib.hid (by
          have h := A2.out.1
          rw [hwe, HOV.out] at h
          rw [← hse]
          exact h)
        have HSE : Hid (endI sz = se) := Lib.hid (by rw [EQE.out]; exact hse)
        have RE : Hid (RelI ⟨pc, sp, fp, st, out, stt, val⟩ se (stepO FET E ⟨pc, sp, fp, st, out, stt, val⟩)) := Lib.hid (by rw [← HSE.out]; exact RZ.out)
        have OE : Hid (we.ownsRow B 3 1 (.slice oa on oc) out.length (intV out)) := Lib.hid (by
          have h := ME.out.mc.out
          have e : se.1.out = out := by rw [← hse]; show (loadIM sz spz).2.1.out = out; rw [load_m]; exact HOO.out
          rw [e] at h
          rw [HON.out]
          have e2 : out.length = on := HON.out
          rw [e2] at h
          exact h)
        have KE := Lib.hid (KBB.out we _ SE.out)
        rw [hwe]
        clear hwe hse A1 A2 K8 K9 K10 y5 y6 gm9 hlt9 ME0
        obtain ⟨f9, hf9⟩ : ∃ x, se.2 = x := ⟨_, rfl⟩
        have e2 : we.cell? ⟨cb, 2, none⟩ = some (.bool f9) := by rw [← hf9]; exact ME.out.cells.2.2.1
        have HF9 := Lib.hid hf9
        clear hf9
        cases f9 with
        | true =>
          obtain ⟨HN1, HN2⟩ : Hid (stepM FET E ⟨pc, sp, fp, st, out, stt, val⟩ = ⟨pc, sp, fp, st, out, 2, val⟩) ∧ Hid (se.1.st = st) := by
            have hr := RE.out
            cases ho : stepO FET E ⟨pc, sp, fp, st, out, stt, val⟩ with
            | none => rw [ho] at hr; exact ⟨Lib.hid (step_none ho), Lib.hid hr.2⟩
            | some m' =>
              rw [ho] at hr
              have h1 : se = (m', false) := hr
              have h2 := HF9.out
              rw [h1] at h2
              cases h2
          obtain ⟨z0, z1, z2, z3, z4, z5, z6⟩ := cells7 KE.out
          have hr0 := ME.out.mc.mr
          obtain ⟨y0, y1, y2, y3, y4, y5, y6, gm⟩ := ME.out.mc.cells
          have hltm := ME.out.mc.lt
          have HRW := Lib.hid hr0
          clear hr0
          go_wp2
          go_end0
          rw [HN1.out]
          exact ⟨rfl, _, Lib.hid (McAt.back (s := se) (m := ⟨pc, sp, fp, st, out, stt, val⟩) ME.out HN2.out OE.out H.out.ap ((((((((((OnlyB.refl mb we).set 0 _).set 1 _).set 2 _).set 3 _).set 4 _).set 5 _).set 6 _)).set 5 _) (heap_setCell_at (set7_row HRW.out _ _ _ _ _ _ _) _)), Lib.hid (Step.back (Step.dropC HB5.out SE.out hcbw) (((((((((OnlyB.refl mb we).set 0 _).set 1 _).set 2 _).set 3 _).set 4 _).set 5 _).set 6 _).set 5 _))⟩
        | false =>
          obtain ⟨m', HN1, HN2⟩ : ∃ m', Hid (stepM FET E ⟨pc, sp, fp, st, out, stt, val⟩ = m') ∧ Hid (se = (m', false)) := by
            have hr := RE.out
            cases ho : stepO FET E ⟨pc, sp, fp, st, out, stt, val⟩ with
            | none =>
              rw [ho] at hr
              have h2 := hr.1
              rw [HF9.out] at h2
              cases h2
            | some m' => rw [ho] at hr; exact ⟨m', Lib.hid (step_some ho), Lib.hid hr⟩
          go_wp2
          go_end0
          rw [HN1.out]
          refine ⟨rfl, _, Lib.hid ?_, Lib.hid (Step.dropC HB5.out SE.out hcbw)⟩
          have h := ME.out.mc
          rw [HN2.out] at h
          exact h
      · have HSE : Hid (endI sz = sz) := Lib.hid (by unfold endI; rw [if_neg (by rw [HPZ.out]; exact hp0)])
        have d0 : (pz == 0) = false := by simpa using hp0
        have RE : Hid (RelI ⟨pc, sp, fp, st, out, stt, val⟩ sz (stepO FET E ⟨pc, sp, fp, st, out, stt, val⟩)) := Lib.hid (by have h := RZ.out; rw [HSE.out] at h; exact h)
        have ME := MZ
        have SE := SZ
        have OE := OZ
        have KE := Lib.hid (KBB.out wz _ SZ.out)
        clear hp0
        obtain ⟨f9, hf9⟩ : ∃ x, sz.2 = x := ⟨_, rfl⟩
        have e2 : wz.cell? ⟨cb, 2, none⟩ = some (.bool f9) := by rw [← hf9]; exact ME.out.cells.2.2.1
        have HF9 := Lib.hid hf9
        clear hf9
        cases f9 with
        | true =>
          obtain ⟨HN1, HN2⟩ : Hid (stepM FET E ⟨pc, sp, fp, st, out, stt, val⟩ = ⟨pc, sp, fp, st, out, 2, val⟩) ∧ Hid (sz.1.st = st) := by
            have hr := RE.out
            cases ho : stepO FET E ⟨pc, sp, fp, st, out, stt, val⟩ with
            | none => rw [ho] at hr; exact ⟨Lib.hid (step_none ho), Lib.hid hr.2⟩
            | some m' =>
              rw [ho] at hr
              have h1 : sz = (m', false) := hr
              have h2 := HF9.out
              rw [h1] at h2
              cases h2
          obtain ⟨z0, z1, z2, z3, z4, z5, z6⟩ := cells7 KE.out
          have hr0 := ME.out.mc.mr
          obtain ⟨y0, y1, y2, y3, y4, y5, y6, gm⟩ := ME.out.mc.cells
          have hltm := ME.out.mc.lt
          have HRW := Lib.hid hr0
          clear hr0
          go_wp2
          go_end0
          rw [HN1.out]
          exact ⟨rfl, _, Lib.hid (McAt.back (s := sz) (m := ⟨pc, sp, fp, st, out, stt, val⟩) ME.out HN2.out OE.out H.out.ap ((((((((((OnlyB.refl mb wz).set 0 _).set 1 _).set 2 _).set 3 _).set 4 _).set 5 _).set 6 _)).set 5 _) (heap_setCell_at (set7_row HRW.out _ _ _ _ _ _ _) _)), Lib.hid (Step.back (Step.dropC HB5.out SE.out hcbw) (((((((((OnlyB.refl mb wz).set 0 _).set 1 _).set 2 _).set 3 _).set 4 _).set 5 _).set 6 _).set 5 _))⟩
        | false =>
          obtain ⟨m', HN1, HN2⟩ : ∃ m', Hid (stepM FET E ⟨pc, sp, fp, st, out, stt, val⟩ = m') ∧ Hid (sz = (m', false)) := by
            have hr := RE.out
            cases ho : stepO FET E ⟨pc, sp, fp, st, out, stt, val⟩ with
            | none =>
              rw [ho] at hr
              have h2 := hr.1
              rw [HF9.out] at h2
              cases h2
            | some m' => rw [ho] at hr; exact ⟨m', Lib.hid (step_some ho), Lib.hid hr⟩
          go_wp2
          go_end0
          rw [HN1.out]
          refine ⟨rfl, _, Lib.hid ?_, Lib.hid (Step.dropC HB5.out SE.out hcbw)⟩
          have h := ME.out.mc
          rw [HN2.out] at h
          exact h
    | some y =>
      obtain ⟨⟨xc, xa⟩, xn⟩ := y
      obtain ⟨rfl, rfl, rfl, rfl⟩ := decV_some (by have h := HRV.out; (try dsimp only at h); rw [hf] at h; exact h)
      obtain ⟨hxo, hp1, hp2, hp3⟩ := fetS_is HS.out (a := pc) (x := ⟨xc, xa⟩) (n := xn) (by rw [HFET.out]; exact hf)
      have HXO := Lib.hid hxo
      have hc0 := hxo.1.1
      have hc1 := hxo.1.2
      dsimp only at hc0 hc1
      obtain ⟨cN, rfl⟩ : ∃ n : Nat, xc = (n : Int) := ⟨xc.toNat, (Int.toNat_of_nonneg hc0).symm⟩
      have hcN : cN < 18 := by omega
      have M5 : Hid (MiAt B cb mb W5 (.slice a2 E.length c2) (.slice (some ⟨sg, 0, none⟩) 1200 sc) (.slice oa on oc) (⟨pc, sp, fp, st, out, stt, val⟩, false)) := MI5
      have HP := Lib.hid (M5.out.setPc (pc + (xn : Int)))
      have up : IntKind.i64.wrap (pc + (xn : Int)) = pc + (xn : Int) := IntWalk.i64_in _ (by omega)
      have HW5 : Hid (W4.alloc (.cells #[.pointer (some ⟨mb, 0, none⟩), (.slice a2 E.length c2), .bool false] 92) = W5) := Lib.hid hW5
      have RS : Hid (RelI ⟨pc, sp, fp, st, out, stt, val⟩ (endI (perfI E ⟨(cN : Int), xa⟩ (⟨pc + (xn : Int), sp, fp, st, out, stt, val⟩, false))) (stepO FET E ⟨pc, sp, fp, st, out, stt, val⟩)) := Lib.hid (by
        have e : stepO FET E ⟨pc, sp, fp, st, out, stt, val⟩ = (perfO E ⟨(cN : Int), xa⟩ ⟨pc + (xn : Int), sp, fp, st, out, stt, val⟩).bind endO := by unfold stepO; dsimp only; rw [hf]; rfl
        rw [e]
        have hm := HM.out
        have h := rel_stepI E ⟨(cN : Int), xa⟩ ⟨pc + (xn : Int), sp, fp, st, out, stt, val⟩ ⟨hm.len, hm.ws, by unfold I64; dsimp only; omega, hm.s0, hm.s1, hm.fp⟩ HXO.out HE.out ⟨by dsimp only; omega, by dsimp only; omega⟩
        exact RelI.st h rfl)
      go_upto_region 4 with fail
      rw [HW5.out]
      have e0 := M5.out.cells.1
      obtain ⟨m0, _, _, _, _, _, _, gm⟩ := M5.out.mc.cells
      have hltm := M5.out.mc.lt
      dsimp only at m0
      go_upto_region 6 with fail
      obtain ⟨W6, hW6⟩ : ∃ W, W5.setCell ⟨mb, 0, none⟩ (.int .i64 (pc + (xn : Int))) = W := ⟨_, rfl⟩
      rw [hW6] at HP
      rw [hW6]
      have PX6 : Hid (∀ W, Below W6.heap.size W6 W → W.cell? ⟨xb, 0, none⟩ = some (.int .i64 (cN : Int)) ∧ W.cell? ⟨xb, 1, none⟩ = some (.int .i64 xa)) := Lib.hid (fun W hb => by
        have h5 : W6.heap[xb]? = some (.cells #[.int .i64 (cN : Int), .int .i64 xa] 75 (0, 0)) := by rw [← hW6]; exact (set_other (by have := HZ2.out; omega)).trans PX5.out
        have h6 := (hb.block xb (blk h5).2.2).trans h5
        exact ⟨(blk h6).1 0 _ rfl, (blk h6).1 1 _ rfl⟩)
      have HB6 : Hid (Below B w W6) := Lib.hid (by rw [← hW6]; exact (HB5.out.mono HBw).setCell hB2 _)
      clear hW5 hcb hf hW6 q2 m0 gm hltm e0 hxo hc0 hc1 up
      refine E_start (S := (fun w' => w'.cell? ⟨xb, 0, none⟩ = some (.int .i64 (cN : Int)) ∧ w'.cell? ⟨xb, 1, none⟩ = some (.int .i64 xa))) 4 (by kernel_rfl) (PX6.out _ (Below.refl _ _).drew) (fun hHeld => ?_)
      refine E_take (i := 0) (oi := _) (v := ?_) rfl (by kernel_rfl) (fun _ _ _ h => h) ?_ (by assumption) ?_
      rotate_left 1
      · (refine Or.inl ⟨by rfl, ?_⟩; intro w hSw; (try dsimp only at hSw); (try simp only [List.getElem_toArray, List.getElem_cons_zero, List.getElem_cons_succ]); go_simp; (first | done | with_reducible rfl))
      try simp only [Act.put, List.setIfInBounds_toArray, List.set_cons_zero, List.set_cons_succ, List.getElem_toArray, List.getElem_cons_zero, List.getElem_cons_succ]
      refine E_take (i := 1) (oi := _) (v := ?_) rfl (by kernel_rfl) (fun _ _ _ h => h) ?_ (by assumption) ?_
      rotate_left 1
      · (refine Or.inl ⟨by rfl, ?_⟩; intro w hSw; (try dsimp only at hSw); (try simp only [List.getElem_toArray, List.getElem_cons_zero, List.getElem_cons_succ]); go_simp; (first | done | with_reducible rfl))
      try simp only [Act.put, List.setIfInBounds_toArray, List.set_cons_zero, List.set_cons_succ, List.getElem_toArray, List.getElem_cons_zero, List.getElem_cons_succ]
      refine E_take (i := 3) (oi := _) (v := ?_) rfl (by kernel_rfl) (fun _ _ _ h => h) ?_ (by assumption) ?_
      rotate_left 1
      · (refine Or.inl ⟨by rfl, ?_⟩; intro w hSw; (try dsimp only at hSw); (try simp only [List.getElem_toArray, List.getElem_cons_zero, List.getElem_cons_succ]); go_simp; (first | done | with_reducible rfl))
      try simp only [Act.put, List.setIfInBounds_toArray, List.set_cons_zero, List.set_cons_succ, List.getElem_toArray, List.getElem_cons_zero, List.getElem_cons_succ]
      refine E_ready (rs := [2]) (by kernel_rfl) (by decide) ?_
      refine AllE.cons (o := _) rfl (fun K hK => ?_) AllE.nil
      try simp only [List.getElem_toArray, List.getElem_cons_zero, List.getElem_cons_succ]
      go_simp
      refine (i_instructionOf cN hcN _).mono ?_
      rintro e w7 ⟨rfl, b7⟩
      go_wp2_with fail
      have B7 : Hid (Below W6.heap.size W6 w7) := Lib.hid ((Below.refl W6.heap.size W6).drew.trans (b7.mono (Nat.le_refl _)))
      clear b7
      have PF := Lib.hid (i_perform a2 c2 E (HP.out.1.below B7.out) (fun W hb => (HR.out W ((HB6.out.trans (B7.out.mono (by have := HB6.out.size; omega))).trans hb)).2.2) (by omega) hB2 (by have h := HON.out; show out.length ≤ 4000000; omega) ⟨(cN : Int), xa⟩ HXO.out)
      dsimp only at PF
      rw [Int.toNat_natCast] at PF
      refine hK.out _ _ (PX6.out _ B7.out) (fun hHeld => ?_)
      clear hK K
      try simp only [Act.put, List.setIfInBounds_toArray, List.set_cons_zero, List.set_cons_succ, List.getElem_toArray, List.getElem_cons_zero, List.getElem_cons_succ]
      refine E_last (o := _) (by kernel_rfl) rfl (by kernel_rfl) (fun K hK => ?_)
      try simp only [List.getElem_toArray, List.getElem_cons_zero, List.getElem_cons_succ]
      go_simp
      rw [ins_enter cN hcN, Oper.upon_enter]
      refine PF.out.mono ?_
      rintro e wz ⟨rfl, ovz, MZ, SZ0, OZ, AZ0⟩
      go_wp2_with fail
      refine hK.out _ _ ?_
      clear hK K
      obtain ⟨sz, hsz⟩ : ∃ x : McS, perfI E ⟨(cN : Int), xa⟩ (⟨pc + (xn : Int), sp, fp, st, out, stt, val⟩, false) = x := ⟨_, rfl⟩
      rw [hsz] at MZ AZ0 RS
      have RZ := RS
      have SZ : Hid (Step mb (MM cb (.slice (some ⟨sg, 0, none⟩) 1200 sc) (.slice oa on oc)) (MM cb (.slice (some ⟨sg, 0, none⟩) 1200 sc) ovz) W5 wz) := Lib.hid ((HP.out.2.trans (Step.of_below B7.out)).trans SZ0.out)
      have AZ : Hid ((ovz = (.slice oa on oc) ∧ sz.1.out = out) ∨ sz.1.pc ≠ 0) := Lib.hid (by
        rcases AZ0.out with h | h
        · exact .inl h
        · exact .inr (by rw [h]; show pc + (xn : Int) ≠ 0; omega))
      clear hsz AZ0 SZ0 RS
      obtain ⟨pz, hpz⟩ : ∃ x, sz.1.pc = x := ⟨_, rfl⟩
      obtain ⟨spz, hspz⟩ : ∃ x, sz.1.sp = x := ⟨_, rfl⟩
      have HSP := Lib.hid hspz
      have HPZ := Lib.hid hpz
      have e0 := MZ.out.cells.1
      have m0 : wz.cell? ⟨mb, 0, none⟩ = some (.int .i64 pz) := by rw [← hpz]; exact MZ.out.mc.cells.1
      have K8 : Hid (wz.cell? ⟨cb, 0, none⟩ = some (.pointer (some ⟨mb, 0, none⟩)) ∧ wz.cell? ⟨mb, 1, none⟩ = some (.int .i64 spz)) := Lib.hid ⟨e0, by rw [← hspz]; exact MZ.out.mc.cells.2.1⟩
      have MD := Lib.hid (MZ.out.below (Below.refl _ _).drew)
      have SD : Hid (Step mb (MM cb (.slice (some ⟨sg, 0, none⟩) 1200 sc) (.slice oa on oc)) (MM cb (.slice (some ⟨sg, 0, none⟩) 1200 sc) ovz) W5 wz.drew) := Lib.hid (SZ.out.trans (Step.of_below (Below.refl _ _).drew))
      clear hpz hspz
      by_cases hp0 : pz = 0
      · subst hp0
        obtain ⟨HOV, HOO⟩ : Hid (ovz = (.slice oa on oc)) ∧ Hid (sz.1.out = out) := by
          rcases AZ.out with h | h
          · exact ⟨Lib.hid h.1, Lib.hid h.2⟩
          · exact absurd HPZ.out h
        go_upto_region 8 with fail
        clear e0 m0
        refine E_start (S := (fun w' => w'.cell? ⟨cb, 0, none⟩ = some (.pointer (some ⟨mb, 0, none⟩)) ∧ w'.cell? ⟨mb, 1, none⟩ = some (.int .i64 spz))) 15 (by kernel_rfl) (K8.out) (fun hHeld => ?_)
        refine E_take (i := 0) (oi := _) (v := ?_) rfl (by kernel_rfl) (fun _ _ _ h => h) ?_ (by assumption) ?_
        rotate_left 1
        · (refine Or.inl ⟨by rfl, ?_⟩; intro w hSw; (try dsimp only at hSw); (try simp only [List.getElem_toArray, List.getElem_cons_zero, List.getElem_cons_succ]); go_simp; (first | done | with_reducible rfl))
        try simp only [Act.put, List.setIfInBounds_toArray, List.set_cons_zero, List.set_cons_succ, List.getElem_toArray, List.getElem_cons_zero, List.getElem_cons_succ]
        refine E_take (i := 1) (oi := _) (v := ?_) rfl (by kernel_rfl) (fun _ _ _ h => h) ?_ (by assumption) ?_
        rotate_left 1
        · (refine Or.inl ⟨by rfl, ?_⟩; intro w hSw; (try dsimp only at hSw); (try simp only [List.getElem_toArray, List.getElem_cons_zero, List.getElem_cons_succ]); go_simp; (first | done | with_reducible rfl))
        try simp only [Act.put, List.setIfInBounds_toArray, List.set_cons_zero, List.set_cons_succ, List.getElem_toArray, List.getElem_cons_zero, List.getElem_cons_succ]
        refine E_take (i := 2) (oi := _) (v := ?_) rfl (by kernel_rfl) (fun _ _ _ h => h) ?_ (by assumption) ?_
        rotate_left 1
        · (refine Or.inl ⟨by rfl, ?_⟩; intro w hSw; (try dsimp only at hSw); (try simp only [List.getElem_toArray, List.getElem_cons_zero, List.getElem_cons_succ]); go_simp; (first | done | with_reducible rfl))
        try simp only [Act.put, List.setIfInBounds_toArray, List.set_cons_zero, List.set_cons_succ, List.getElem_toArray, List.getElem_cons_zero, List.getElem_cons_succ]
        refine E_take (i := 3) (oi := _) (v := ?_) rfl (by kernel_rfl) (fun _ _ _ h => h) ?_ (by assumption) ?_
        rotate_left 1
        · (refine Or.inl ⟨by rfl, ?_⟩; intro w hSw; (try dsimp only at hSw); (try simp only [List.getElem_toArray, List.getElem_cons_zero, List.getElem_cons_succ]); go_simp; (first | done | with_reducible rfl))
        try simp only [Act.put, List.setIfInBounds_toArray, List.set_cons_zero, List.set_cons_succ, List.getElem_toArray, List.getElem_cons_zero, List.getElem_cons_succ]
        refine E_take (i := 4) (oi := _) (v := ?_) rfl (by kernel_rfl) (fun _ _ _ h => h) ?_ (by assumption) ?_
        rotate_left 1
        · (refine Or.inl ⟨by rfl, ?_⟩; intro w hSw; (try dsimp only at hSw); (try simp only [List.getElem_toArray, List.getElem_cons_zero, List.getElem_cons_succ]); go_simp; (first | done | with_reducible rfl))
        try simp only [Act.put, List.setIfInBounds_toArray, List.set_cons_zero, List.set_cons_succ, List.getElem_toArray, List.getElem_cons_zero, List.getElem_cons_succ]
        refine E_take (i := 5) (oi := _) (v := ?_) rfl (by kernel_rfl) (fun _ _ _ h => h) ?_ (by assumption) ?_
        rotate_left 1
        · (refine Or.inl ⟨by rfl, ?_⟩; intro w hSw; (try dsimp only at hSw); (try simp only [List.getElem_toArray, List.getElem_cons_zero, List.getElem_cons_succ]); go_simp; (first | done | with_reducible rfl))
        try simp only [Act.put, List.setIfInBounds_toArray, List.set_cons_zero, List.set_cons_succ, List.getElem_toArray, List.getElem_cons_zero, List.getElem_cons_succ]
        refine E_take (i := 6) (oi := _) (v := ?_) rfl (by kernel_rfl) (fun _ _ _ h => h) ?_ (by assumption) ?_
        rotate_left 1
        · (refine Or.inl ⟨by rfl, ?_⟩; intro w hSw; (try dsimp only at hSw); (try simp only [List.getElem_toArray, List.getElem_cons_zero, List.getElem_cons_succ]); go_simp; (first | done | with_reducible rfl))
        try simp only [Act.put, List.setIfInBounds_toArray, List.set_cons_zero, List.set_cons_succ, List.getElem_toArray, List.getElem_cons_zero, List.getElem_cons_succ]
        refine E_take (i := 7) (oi := _) (v := ?_) rfl (by kernel_rfl) (fun _ _ _ h => h) ?_ (by assumption) ?_
        rotate_left 1
        · (refine Or.inl ⟨by rfl, ?_⟩; intro w hSw; (try dsimp only at hSw); (try simp only [List.getElem_toArray, List.getElem_cons_zero, List.getElem_cons_succ]); go_simp; (first | done | with_reducible rfl))
        try simp only [Act.put, List.setIfInBounds_toArray, List.set_cons_zero, List.set_cons_succ, List.getElem_toArray, List.getElem_cons_zero, List.getElem_cons_succ]
        refine E_take (i := 8) (oi := _) (v := ?_) rfl (by kernel_rfl) (fun _ _ _ h => h) ?_ (by assumption) ?_
        rotate_left 1
        · (refine Or.inl ⟨by rfl, ?_⟩; intro w hSw; (try dsimp only at hSw); (try simp only [List.getElem_toArray, List.getElem_cons_zero, List.getElem_cons_succ]); go_simp; (first | done | with_reducible rfl))
        try simp only [Act.put, List.setIfInBounds_toArray, List.set_cons_zero, List.set_cons_succ, List.getElem_toArray, List.getElem_cons_zero, List.getElem_cons_succ]
        refine E_ready (rs := [9]) (by kernel_rfl) (by decide) ?_
        refine AllE.cons (o := _) rfl (fun K hK => ?_) AllE.nil
        try simp only [List.getElem_toArray, List.getElem_cons_zero, List.getElem_cons_succ]
        go_simp
        refine (i_load MD.out spz).mono ?_
        rintro e w9 ⟨rfl, HC9, HS9⟩
        go_wp2_with fail
        have K9 : Hid (w9.cell? ⟨cb, 0, none⟩ = some (.pointer (some ⟨mb, 0, none⟩)) ∧ w9.cell? ⟨mb, 1, none⟩ = some (.int .i64 spz)) := Lib.hid ⟨HC9.out.cells.1, by have h := HC9.out.mc.cells.2.1; rw [load_m, HSP.out] at h; exact h⟩
        obtain ⟨_, _, _, _, _, y5, y6, gm9⟩ := HC9.out.mc.cells
        have hlt9 := HC9.out.mc.lt
        have A1 := Lib.hid (HC9.out.setSt 1)
        have A2 := Lib.hid (A1.out.1.setVl (loadIM sz spz).1)
        have K10 : Hid ((w9.setCell ⟨mb, 5, none⟩ (.int .i64 1)).cell? ⟨cb, 0, none⟩ = some (.pointer (some ⟨mb, 0, none⟩)) ∧ (w9.setCell ⟨mb, 5, none⟩ (.int .i64 1)).cell? ⟨mb, 1, none⟩ = some (.int .i64 spz)) := Lib.hid ⟨A1.out.1.cells.1, by have h := A1.out.1.mc.cells.2.1; dsimp only at h; rw [load_m, HSP.out] at h; exact h⟩
        refine hK.out _ _ (K9.out) (fun hHeld => ?_)
        clear hK K
        try simp only [Act.put, List.setIfInBounds_toArray, List.set_cons_zero, List.set_cons_succ, List.getElem_toArray, List.getElem_cons_zero, List.getElem_cons_succ]
        refine E_take (i := 10) (oi := _) (v := ?_) rfl (by kernel_rfl) (fun _ _ _ h => h) ?_ (by assumption) ?_
        rotate_left 1
        · (refine Or.inl ⟨by rfl, ?_⟩; intro w hSw; (try dsimp only at hSw); (try simp only [List.getElem_toArray, List.getElem_cons_zero, List.getElem_cons_succ]); go_simp; (first | done | with_reducible rfl))
        try simp only [Act.put, List.setIfInBounds_toArray, List.set_cons_zero, List.set_cons_succ, List.getElem_toArray, List.getElem_cons_zero, List.getElem_cons_succ]
        refine E_take (i := 11) (oi := _) (v := ?_) rfl (by kernel_rfl) (fun _ _ _ h => h) ?_ (by assumption) ?_
        rotate_left 1
        · (refine Or.inl ⟨by rfl, ?_⟩; intro w hSw; (try dsimp only at hSw); (try simp only [List.getElem_toArray, List.getElem_cons_zero, List.getElem_cons_succ]); go_simp; (first | done | with_reducible rfl))
        try simp only [Act.put, List.setIfInBounds_toArray, List.set_cons_zero, List.set_cons_succ, List.getElem_toArray, List.getElem_cons_zero, List.getElem_cons_succ]
        refine E_ready (rs := [12]) (by kernel_rfl) (by decide) ?_
        refine AllE.cons (o := _) rfl (fun K hK => ?_) AllE.nil
        try simp only [List.getElem_toArray, List.getElem_cons_zero, List.getElem_cons_succ]
        go_simp
        refine hK.out _ _ (K10.out) (fun hHeld => ?_)
        clear hK K
        try simp only [Act.put, List.setIfInBounds_toArray, List.set_cons_zero, List.set_cons_succ, List.getElem_toArray, List.getElem_cons_zero, List.getElem_cons_succ]
        refine E_take (i := 13) (oi := _) (v := ?_) rfl (by kernel_rfl) (fun _ _ _ h => h) ?_ (by assumption) ?_
        rotate_left 1
        · (refine Or.inl ⟨by rfl, ?_⟩; intro w hSw; (try dsimp only at hSw); (try simp only [List.getElem_toArray, List.getElem_cons_zero, List.getElem_cons_succ]); go_simp; (first | done | with_reducible rfl))
        try simp only [Act.put, List.setIfInBounds_toArray, List.set_cons_zero, List.set_cons_succ, List.getElem_toArray, List.getElem_cons_zero, List.getElem_cons_succ]
        refine E_take (i := 14) (oi := _) (v := ?_) rfl (by kernel_rfl) (fun _ _ _ h => h) ?_ (by assumption) ?_
        rotate_left 1
        · (refine Or.inl ⟨by rfl, ?_⟩; intro w hSw; (try dsimp only at hSw); (try simp only [List.getElem_toArray, List.getElem_cons_zero, List.getElem_cons_succ]); go_simp; (first | done | with_reducible rfl))
        try simp only [Act.put, List.setIfInBounds_toArray, List.set_cons_zero, List.set_cons_succ, List.getElem_toArray, List.getElem_cons_zero, List.getElem_cons_succ]
        refine E_last (o := _) (by kernel_rfl) rfl (by kernel_rfl) (fun K hK => ?_)
        try simp only [List.getElem_toArray, List.getElem_cons_zero, List.getElem_cons_succ]
        go_simp
        refine hK.out _ _ ?_
        clear hK K
        have EQE : Hid (endI sz = ({ (loadIM sz spz).2.1 with stt := 1, val := (loadIM sz spz).1 }, (loadIM sz spz).2.2)) := Lib.hid (by unfold endI; rw [if_pos HPZ.out, HSP.out])
        have ME0 := Lib.hid (A2.out.1.below (Below.refl _ _).drew)
        obtain ⟨se, hse⟩ : ∃ x : McS, ({ (loadIM sz spz).2.1 with stt := 1, val := (loadIM sz spz).1 }, (loadIM sz spz).2.2) = x := ⟨_, rfl⟩
        obtain ⟨we, hwe⟩ : ∃ W, (w9.setCell ⟨mb, 5, none⟩ (.int .i64 1)).setCell ⟨mb, 6, none⟩ (.int .i64 (loadIM sz spz).1) = W := ⟨_, rfl⟩
        have SE : Hid (Step mb (MM cb (.slice (some ⟨sg, 0, none⟩) 1200 sc) (.slice oa on oc)) (MM cb (.slice (some ⟨sg, 0, none⟩) 1200 sc) (.slice oa on oc)) W5 we) := Lib.hid (by
          have h := SD.out.trans (HS9.out.trans (A1.out.2.trans A2.out.2))
          rw [hwe, HOV.out] at h
          exact h)
        have ME : Hid (MiAt B cb mb we (.slice a2 E.length c2) (.slice (some ⟨sg, 0, none⟩) 1200 sc) (.slice oa on oc) se) := Lib.hid (by
          have h := A2.out.1
          rw [hwe, HOV.out] at h
          rw [← hse]
          exact h)
        have HSE : Hid (endI sz = se) := Lib.hid (by rw [EQE.out]; exact hse)
        have RE : Hid (RelI ⟨pc, sp, fp, st, out, stt, val⟩ se (stepO FET E ⟨pc, sp, fp, st, out, stt, val⟩)) := Lib.hid (by rw [← HSE.out]; exact RZ.out)
        have OE : Hid (we.ownsRow B 3 1 (.slice oa on oc) out.length (intV out)) := Lib.hid (by
          have h := ME.out.mc.out
          have e : se.1.out = out := by rw [← hse]; show (loadIM sz spz).2.1.out = out; rw [load_m]; exact HOO.out
          rw [e] at h
          rw [HON.out]
          have e2 : out.length = on := HON.out
          rw [e2] at h
          exact h)
        have KE := Lib.hid (KBB.out we _ SE.out)
        rw [hwe]
        clear hwe hse A1 A2 K8 K9 K10 y5 y6 gm9 hlt9 ME0
        obtain ⟨f9, hf9⟩ : ∃ x, se.2 = x := ⟨_, rfl⟩
        have e2 : we.cell? ⟨cb, 2, none⟩ = some (.bool f9) := by rw [← hf9]; exact ME.out.cells.2.2.1
        have HF9 := Lib.hid hf9
        clear hf9
        cases f9 with
        | true =>
          obtain ⟨HN1, HN2⟩ : Hid (stepM FET E ⟨pc, sp, fp, st, out, stt, val⟩ = ⟨pc, sp, fp, st, out, 2, val⟩) ∧ Hid (se.1.st = st) := by
            have hr := RE.out
            cases ho : stepO FET E ⟨pc, sp, fp, st, out, stt, val⟩ with
            | none => rw [ho] at hr; exact ⟨Lib.hid (step_none ho), Lib.hid hr.2⟩
            | some m' =>
              rw [ho] at hr
              have h1 : se = (m', false) := hr
              have h2 := HF9.out
              rw [h1] at h2
              cases h2
          obtain ⟨z0, z1, z2, z3, z4, z5, z6⟩ := cells7 KE.out
          have hr0 := ME.out.mc.mr
          obtain ⟨y0, y1, y2, y3, y4, y5, y6, gm⟩ := ME.out.mc.cells
          have hltm := ME.out.mc.lt
          have HRW := Lib.hid hr0
          clear hr0
          go_wp2
          go_end0
          rw [HN1.out]
          exact ⟨rfl, _, Lib.hid (McAt.back (s := se) (m := ⟨pc, sp, fp, st, out, stt, val⟩) ME.out HN2.out OE.out H.out.ap ((((((((((OnlyB.refl mb we).set 0 _).set 1 _).set 2 _).set 3 _).set 4 _).set 5 _).set 6 _)).set 5 _) (heap_setCell_at (set7_row HRW.out _ _ _ _ _ _ _) _)), Lib.hid (Step.back (Step.dropC HB5.out SE.out hcbw) (((((((((OnlyB.refl mb we).set 0 _).set 1 _).set 2 _).set 3 _).set 4 _).set 5 _).set 6 _).set 5 _))⟩
        | false =>
          obtain ⟨m', HN1, HN2⟩ : ∃ m', Hid (stepM FET E ⟨pc, sp, fp, st, out, stt, val⟩ = m') ∧ Hid (se = (m', false)) := by
            have hr := RE.out
            cases ho : stepO FET E ⟨pc, sp, fp, st, out, stt, val⟩ with
            | none =>
              rw [ho] at hr
              have h2 := hr.1
              rw [HF9.out] at h2
              cases h2
            | some m' => rw [ho] at hr; exact ⟨m', Lib.hid (step_some ho), Lib.hid hr⟩
          go_wp2
          go_end0
          rw [HN1.out]
          refine ⟨rfl, _, Lib.hid ?_, Lib.hid (Step.dropC HB5.out SE.out hcbw)⟩
          have h := ME.out.mc
          rw [HN2.out] at h
          exact h
      · have HSE : Hid (endI sz = sz) := Lib.hid (by unfold endI; rw [if_neg (by rw [HPZ.out]; exact hp0)])
        have d0 : (pz == 0) = false := by simpa using hp0
        have RE : Hid (RelI ⟨pc, sp, fp, st, out, stt, val⟩ sz (stepO FET E ⟨pc, sp, fp, st, out, stt, val⟩)) := Lib.hid (by have h := RZ.out; rw [HSE.out] at h; exact h)
        have ME := MZ
        have SE := SZ
        have OE := OZ
        have KE := Lib.hid (KBB.out wz _ SZ.out)
        clear hp0
        obtain ⟨f9, hf9⟩ : ∃ x, sz.2 = x := ⟨_, rfl⟩
        have e2 : wz.cell? ⟨cb, 2, none⟩ = some (.bool f9) := by rw [← hf9]; exact ME.out.cells.2.2.1
        have HF9 := Lib.hid hf9
        clear hf9
        cases f9 with
        | true =>
          obtain ⟨HN1, HN2⟩ : Hid (stepM FET E ⟨pc, sp, fp, st, out, stt, val⟩ = ⟨pc, sp, fp, st, out, 2, val⟩) ∧ Hid (sz.1.st = st) := by
            have hr := RE.out
            cases ho : stepO FET E ⟨pc, sp, fp, st, out, stt, val⟩ with
            | none => rw [ho] at hr; exact ⟨Lib.hid (step_none ho), Lib.hid hr.2⟩
            | some m' =>
              rw [ho] at hr
              have h1 : sz = (m', false) := hr
              have h2 := HF9.out
              rw [h1] at h2
              cases h2
          obtain ⟨z0, z1, z2, z3, z4, z5, z6⟩ := cells7 KE.out
          have hr0 := ME.out.mc.mr
          obtain ⟨y0, y1, y2, y3, y4, y5, y6, gm⟩ := ME.out.mc.cells
          have hltm := ME.out.mc.lt
          have HRW := Lib.hid hr0
          clear hr0
          go_wp2
          go_end0
          rw [HN1.out]
          exact ⟨rfl, _, Lib.hid (McAt.back (s := sz) (m := ⟨pc, sp, fp, st, out, stt, val⟩) ME.out HN2.out OE.out H.out.ap ((((((((((OnlyB.refl mb wz).set 0 _).set 1 _).set 2 _).set 3 _).set 4 _).set 5 _).set 6 _)).set 5 _) (heap_setCell_at (set7_row HRW.out _ _ _ _ _ _ _) _)), Lib.hid (Step.back (Step.dropC HB5.out SE.out hcbw) (((((((((OnlyB.refl mb wz).set 0 _).set 1 _).set 2 _).set 3 _).set 4 _).set 5 _).set 6 _).set 5 _))⟩
        | false =>
          obtain ⟨m', HN1, HN2⟩ : ∃ m', Hid (stepM FET E ⟨pc, sp, fp, st, out, stt, val⟩ = m') ∧ Hid (sz = (m', false)) := by
            have hr := RE.out
            cases ho : stepO FET E ⟨pc, sp, fp, st, out, stt, val⟩ with
            | none =>
              rw [ho] at hr
              have h2 := hr.1
              rw [HF9.out] at h2
              cases h2
            | some m' => rw [ho] at hr; exact ⟨m', Lib.hid (step_some ho), Lib.hid hr⟩
          go_wp2
          go_end0
          rw [HN1.out]
          refine ⟨rfl, _, Lib.hid ?_, Lib.hid (Step.dropC HB5.out SE.out hcbw)⟩
          have h := ME.out.mc
          rw [HN2.out] at h
          exact h
end Go.Proofs.YtakgjlpgcepnkaaGreat
