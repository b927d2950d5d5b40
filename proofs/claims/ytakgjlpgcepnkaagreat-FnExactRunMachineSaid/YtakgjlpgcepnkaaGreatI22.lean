/- The program's machine is copied; is it one?; The program's MachineOk; The program's StepMachine. -/
import Derived.Test.YtakgjlpgcepnkaaGreatI15
import Derived.Test.YtakgjlpgcepnkaaGreatRows
import Derived.Test.YtakgjlpgcepnkaaGreatI02
import Derived.Test.YtakgjlpgcepnkaaGreatI01
import Derived.Test.YtakgjlpgcepnkaaGreatI21
import Derived.Lib.SliceRun
import Derived.WalkSpells
import Derived.Maps.AppendAt
import Derived.Outline
import Derived.Lib.Hide
import Derived.WalkSmall
import Derived.Deep.QuietTactic
import Derived.BigQuiet
import Derived.Deep.RegionHeld3
import Derived.Deep.Cut
/-! The program's machine is copied; is it one? -/
namespace Go.Proofs.YtakgjlpgcepnkaaGreat
open Go.RowKit Go.Lib

/-- A machine was handed back, its rows its own. -/
def CopR (m : McL) (w : World) (e : Ending) (w' : World) : Prop := ∃ v1 v2, e = .returned (mcA m v1 v2) ∧ w'.ownsRow w.heap.size 3 1 v1 m.st.length (intV m.st) ∧ w'.ownsRow w.heap.size 3 1 v2 m.out.length (intV m.out) ∧ Ap v1 v2 ∧ Below w.heap.size w w'
theorem infoIntC : (Tryz.prog.info? 3).map (fun i => (i.zero, i.size, i.bytes)) = some (some (.int .i64 0), 1, 8) := by kernel_rfl
theorem intV_lenM (l : List Int) : (intV l).length = l.length := by simp [intV]
theorem intV_allM (l : List Int) : ∀ u ∈ intV l, u.oneCell' = true := fun u hu => by
  unfold intV at hu
  obtain ⟨x, _, rfl⟩ := List.mem_map.1 hu
  rfl
/-- What a copy of a row of numbers leaves. -/
def IntR (l : List Int) (w : World) (e : Ending) (w' : World) : Prop := ∃ v, e = .returned v ∧ w'.ownsRow w.heap.size 3 1 v l.length (intV l) ∧ Below w.heap.size w w'
set_option maxRecDepth 100000 in
set_option maxHeartbeats 1000000 in
theorem x_cloneI (v : Value) (l : List Int) (w : World) (h : w.ownsRow 0 3 1 v l.length (intV l)) (hl : l.length ≤ 4000000) : Calls Tryz.prog 44 #[v] w (IntR l w) := by
  obtain ⟨i0, hi, hz0, hz1, hz2⟩ := info_parts infoIntC
  have qn : ∀ (W : World) (a : Option Addr) (n c n' c' : Nat), (binOp .eql 23 (.slice a n c) (.slice none n' c')).run Tryz.prog W = .ok (.bool a.isNone) W := fun W a n c n' c' => Lib.run_eql_slice_nil W _ _ a n c n' c' Tryz.underlying23
  rcases h.2 with ⟨rfl, h0⟩ | ⟨g, cap, cur, rfl, hB, hg, _⟩
  · obtain rfl := List.length_eq_zero_iff.1 h0
    clear h h0
    go_enter Tryz.func44, Tryz.ntmps44
    go_wp2
    go_ret
    exact ⟨_, rfl, World.ownsRow_nil _ _ _ _, Below.refl _ _⟩
  · have HG := Lib.hid ((h.alloc (.cells #[] 3)).cells rfl)
    have hown := World.ownsRow_lit (e := 3) (size := 1) (base := w.heap.size) w #[] 0 (Nat.le_refl _) (by decide) rfl
    have h63 : 0 + l.length ≤ maxLen := by unfold maxLen; omega
    have hby : (0 + l.length) * 8 ≤ 140737488355328 := by omega
    have HB0 : Hid (Below w.heap.size w (w.alloc (.cells #[] 3))) := Lib.hid ((Below.refl _ _).alloc (Nat.le_refl _) _)
    have hz : (w.alloc (.cells #[] 3)).heap.size = w.heap.size + 1 := by simp
    clear h
    go_enter Tryz.func44, Tryz.ntmps44
    go_wp2_with (at_builtin; refine wpList_append_own _ rfl _ _ 23 rfl w.heap.size 3 i0 (.int .i64 0) 1 8 Tryz.underlying23 hi hz0 hz1 hz2 rfl (by decide) _ _ _ rfl hown ⟨g, 0, none⟩ l.length cap (intV l) rfl (by rw [intV_lenM]; omega) HG.out (intV_allM l) h63 hby (by omega) ?_)
    intro v' w1 hown1 hgrow _
    have HO : Hid (w1.ownsRow w.heap.size 3 1 v' l.length (intV l)) := Lib.hid hown1
    have HB := Lib.hid (HB0.out.grown hgrow (by omega) (fun j hj => Nat.le_of_eq (Option.some.inj hj)))
    clear hown1 hgrow
    go_wp2
    go_ret
    exact ⟨_, rfl, HO.out, HB.out⟩
theorem res_cells7 {w : World} {b T : Nat} {x0 x1 x2 x3 x4 x5 x6 : Value} (h : w.heap[b]? = some (.cells #[x0, x1, x2, x3, x4, x5, x6] T (0, 0))) : (w.cell? ⟨b, 0, none⟩ = some x0 ∧ w.cell? ⟨b, 1, none⟩ = some x1 ∧ w.cell? ⟨b, 2, none⟩ = some x2 ∧ w.cell? ⟨b, 3, none⟩ = some x3 ∧ w.cell? ⟨b, 4, none⟩ = some x4 ∧ w.cell? ⟨b, 5, none⟩ = some x5 ∧ w.cell? ⟨b, 6, none⟩ = some x6) ∧ (∀ j, w.frozen? ⟨b, j, none⟩ = false) ∧ b < w.heap.size :=
  ⟨⟨(blk h).1 0 _ rfl, (blk h).1 1 _ rfl, (blk h).1 2 _ rfl, (blk h).1 3 _ rfl, (blk h).1 4 _ rfl, (blk h).1 5 _ rfl, (blk h).1 6 _ rfl⟩, (blk h).2.1, (blk h).2.2⟩
set_option maxRecDepth 100000 in
set_option maxHeartbeats 4000000 in
theorem i_copied (m : McL) (sv ov : Value) (w : World) (hs : w.ownsRow 0 3 1 sv m.st.length (intV m.st)) (ho : w.ownsRow 0 3 1 ov m.out.length (intV m.out)) (h1 : m.st.length ≤ 4000000) (h2 : m.out.length ≤ 4000000) : Calls Tryz.prog 26 #[mcA m sv ov] w (CopR m w) := by
  obtain ⟨pc, sp, fp, st, out, stt, val⟩ := m
  obtain ⟨sa, sc, rfl⟩ : ∃ a c, sv = .slice a st.length c := by
    rcases hs.2 with ⟨rfl, h0⟩ | ⟨g, cap, cur, rfl, _⟩
    · dsimp only at h0; rw [h0]; exact ⟨_, _, rfl⟩
    · exact ⟨_, _, rfl⟩
  obtain ⟨oa, oc, rfl⟩ : ∃ a c, ov = .slice a out.length c := by
    rcases ho.2 with ⟨rfl, h0⟩ | ⟨g, cap, cur, rfl, _⟩
    · dsimp only at h0; rw [h0]; exact ⟨_, _, rfl⟩
    · exact ⟨_, _, rfl⟩
  unfold mcA mcRow
  dsimp only at hs ho h1 h2 ⊢
  obtain ⟨sn, hsn⟩ : ∃ x, st.length = x := ⟨_, rfl⟩
  obtain ⟨on, hon⟩ : ∃ x, out.length = x := ⟨_, rfl⟩
  have HSN := Lib.hid hsn
  have HON := Lib.hid hon
  rw [hsn] at hs h1 ⊢
  rw [hon] at ho h2 ⊢
  have T2 := Lib.hid (two_new w (.cells #[.int .i64 pc, .int .i64 sp, .int .i64 fp, .slice sa sn sc, .slice oa on oc, .int .i64 stt, .int .i64 val] 30) (.cells #[.int .i64 0, .int .i64 0, .int .i64 0, .slice none 0 0, .slice none 0 0, .int .i64 0, .int .i64 0] 30))
  obtain ⟨W0, hW0⟩ : ∃ W, (w.alloc (.cells #[.int .i64 pc, .int .i64 sp, .int .i64 fp, .slice sa sn sc, .slice oa on oc, .int .i64 stt, .int .i64 val] 30)).alloc (.cells #[.int .i64 0, .int .i64 0, .int .i64 0, .slice none 0 0, .slice none 0 0, .int .i64 0, .int .i64 0] 30) = W := ⟨_, rfl⟩
  rw [hW0] at T2
  have HW0 := Lib.hid hW0
  have HZ0 : Hid (W0.heap.size = w.heap.size + 2) := Lib.hid T2.out.2.2.1
  have C1 : Hid (∀ W, Below w.heap.size w W → Calls Tryz.prog 44 #[.slice sa sn sc] W (IntR st W)) := Lib.hid (fun W hb => x_cloneI _ st W (by rw [hsn]; exact owns_below hs hb) (by omega))
  have C2 : Hid (∀ W, Below w.heap.size w W → Calls Tryz.prog 44 #[.slice oa on oc] W (IntR out W)) := Lib.hid (fun W hb => x_cloneI _ out W (by rw [hon]; exact owns_below ho hb) (by omega))
  have HB0 : Hid (Below w.heap.size w W0) := Lib.hid T2.out.2.2.2
  have HX : Hid (∀ W, Below W0.heap.size W0 W → W.heap[w.heap.size]? = some (.cells #[.int .i64 pc, .int .i64 sp, .int .i64 fp, .slice sa sn sc, .slice oa on oc, .int .i64 stt, .int .i64 val] 30 (0, 0)) ∧ W.heap[w.heap.size + 1]? = some (.cells #[.int .i64 0, .int .i64 0, .int .i64 0, .slice none 0 0, .slice none 0 0, .int .i64 0, .int .i64 0] 30 (0, 0)) ∧ Below w.heap.size w W) := Lib.hid (fun W hb => by
    have hz := HZ0.out
    exact ⟨(hb.block w.heap.size (by omega)).trans T2.out.1, (hb.block (w.heap.size + 1) (by omega)).trans T2.out.2.1, HB0.out.trans (hb.mono (by omega))⟩)
  have K0 : Hid (W0.drew.cell? ⟨w.heap.size, 4, none⟩ = some (.slice oa on oc)) := Lib.hid ((blk (HX.out _ (Below.refl _ _).drew).1).1 4 _ rfl)
  have k3 : W0.drew.cell? ⟨w.heap.size, 3, none⟩ = some (.slice sa sn sc) := (blk (HX.out _ (Below.refl _ _).drew).1).1 3 _ rfl
  have BD : Hid (Below w.heap.size w W0.drew) := Lib.hid HB0.out.drew
  clear hs ho hsn hon hW0 T2
  go_enter Tryz.func26, Tryz.ntmps26
  go_upto_region 1 with fail
  rw [HW0.out]
  refine E_start (S := (fun w' => w'.cell? ⟨w.heap.size, 4, none⟩ = some (.slice oa on oc))) 9 (by kernel_rfl) (K0.out) (fun hHeld => ?_)
  refine E_take (i := 0) (oi := _) (v := ?_) rfl (by kernel_rfl) (fun _ _ _ h => h) ?_ (by assumption) ?_
  rotate_left 1
  · (refine Or.inl ⟨by rfl, ?_⟩; intro w hSw; (try dsimp only at hSw); (try simp only [List.getElem_toArray, List.getElem_cons_zero, List.getElem_cons_succ]); go_simp; (first | done | with_reducible rfl))
  try simp only [Act.put, List.setIfInBounds_toArray, List.set_cons_zero, List.set_cons_succ, List.getElem_toArray, List.getElem_cons_zero, List.getElem_cons_succ]
  refine E_take (i := 3) (oi := _) (v := ?_) rfl (by kernel_rfl) (fun _ _ _ h => h) ?_ (by assumption) ?_
  rotate_left 1
  · (refine Or.inl ⟨by rfl, ?_⟩; intro w hSw; (try dsimp only at hSw); (try simp only [List.getElem_toArray, List.getElem_cons_zero, List.getElem_cons_succ]); go_simp; (first | done | with_reducible rfl))
  try simp only [Act.put, List.setIfInBounds_toArray, List.set_cons_zero, List.set_cons_succ, List.getElem_toArray, List.getElem_cons_zero, List.getElem_cons_succ]
  refine E_take (i := 4) (oi := _) (v := ?_) rfl (by kernel_rfl) (fun _ _ _ h => h) ?_ (by assumption) ?_
  rotate_left 1
  · (refine Or.inl ⟨by rfl, ?_⟩; intro w hSw; (try dsimp only at hSw); (try simp only [List.getElem_toArray, List.getElem_cons_zero, List.getElem_cons_succ]); go_simp; (first | done | with_reducible rfl))
  try simp only [Act.put, List.setIfInBounds_toArray, List.set_cons_zero, List.set_cons_succ, List.getElem_toArray, List.getElem_cons_zero, List.getElem_cons_succ]
  refine E_ready (rs := [1]) (by kernel_rfl) (by decide) ?_
  refine AllE.cons (o := _) rfl (fun K hK => ?_) AllE.nil
  try simp only [List.getElem_toArray, List.getElem_cons_zero, List.getElem_cons_succ]
  go_simp
  refine hK.out _ _ (K0.out) (fun hHeld => ?_)
  clear hK K
  try simp only [Act.put, List.setIfInBounds_toArray, List.set_cons_zero, List.set_cons_succ, List.getElem_toArray, List.getElem_cons_zero, List.getElem_cons_succ]
  refine E_ready (rs := [2]) (by kernel_rfl) (by decide) ?_
  refine AllE.cons (o := _) rfl (fun K hK => ?_) AllE.nil
  try simp only [List.getElem_toArray, List.getElem_cons_zero, List.getElem_cons_succ]
  go_simp
  refine (C1.out _ BD.out).mono ?_
  rintro e w1 ⟨v1, rfl, O1, b1⟩
  obtain ⟨x1, y1, rfl⟩ := owns_shape O1
  rw [HSN.out] at O1
  rw [HSN.out]
  go_wp2_with fail
  have B1 : Hid (Below W0.heap.size W0 w1) := Lib.hid ((Below.refl W0.heap.size W0).drew.trans (b1.mono (Nat.le_refl _)))
  have HO1 := Lib.hid O1
  have K1 : Hid (w1.cell? ⟨w.heap.size, 4, none⟩ = some (.slice oa on oc)) := Lib.hid ((blk (HX.out _ B1.out).1).1 4 _ rfl)
  clear O1 b1 k3
  refine hK.out _ _ (K1.out) (fun hHeld => ?_)
  clear hK K
  try simp only [Act.put, List.setIfInBounds_toArray, List.set_cons_zero, List.set_cons_succ, List.getElem_toArray, List.getElem_cons_zero, List.getElem_cons_succ]
  refine E_take (i := 6) (oi := _) (v := ?_) rfl (by kernel_rfl) (fun _ _ _ h => h) ?_ (by assumption) ?_
  rotate_left 1
  · (refine Or.inl ⟨by rfl, ?_⟩; intro w hSw; (try dsimp only at hSw); (try simp only [List.getElem_toArray, List.getElem_cons_zero, List.getElem_cons_succ]); go_simp; (first | done | with_reducible rfl))
  try simp only [Act.put, List.setIfInBounds_toArray, List.set_cons_zero, List.set_cons_succ, List.getElem_toArray, List.getElem_cons_zero, List.getElem_cons_succ]
  refine E_ready (rs := [5]) (by kernel_rfl) (by decide) ?_
  refine AllE.cons (o := _) rfl (fun K hK => ?_) AllE.nil
  try simp only [List.getElem_toArray, List.getElem_cons_zero, List.getElem_cons_succ]
  go_simp
  refine (C2.out _ (HX.out _ B1.out).2.2).mono ?_
  rintro e w2 ⟨v2, rfl, O2, b2⟩
  obtain ⟨x2, y2, rfl⟩ := owns_shape O2
  rw [HON.out] at O2
  rw [HON.out]
  go_wp2_with fail
  have B2 : Hid (Below W0.heap.size W0 w2) := Lib.hid (B1.out.trans (b2.mono B1.out.size))
  have K2 : Hid (w2.cell? ⟨w.heap.size, 4, none⟩ = some (.slice oa on oc)) := Lib.hid ((blk (HX.out _ B2.out).1).1 4 _ rfl)
  have HAP : Hid (Ap (.slice x1 sn y1) (.slice x2 on y2)) := Lib.hid (fun g e e' => by have h1 := (HO1.out.lt g e).2; have h2 := (O2.lt g e').1; omega)
  have HO1' := Lib.hid (owns_below HO1.out b2)
  have HO2 := Lib.hid (owns_lo O2 (show W0.heap.size ≤ w1.heap.size from B1.out.size))
  clear O2 b2
  obtain ⟨⟨q0, q1, q2, q3, q4, q5, q6⟩, gq, lq⟩ := res_cells7 (HX.out _ B2.out).1
  have K3 : Hid ((w2.setCell ⟨w.heap.size, 3, none⟩ (.slice x1 sn y1)).cell? ⟨w.heap.size, 4, none⟩ = some (.slice oa on oc)) := Lib.hid ((blk (heap_setCell_at (HX.out _ B2.out).1 _)).1 4 _ rfl)
  refine hK.out _ _ (K2.out) (fun hHeld => ?_)
  clear hK K
  try simp only [Act.put, List.setIfInBounds_toArray, List.set_cons_zero, List.set_cons_succ, List.getElem_toArray, List.getElem_cons_zero, List.getElem_cons_succ]
  refine E_ready (rs := [7]) (by kernel_rfl) (by decide) ?_
  refine AllE.cons (o := _) rfl (fun K hK => ?_) AllE.nil
  try simp only [List.getElem_toArray, List.getElem_cons_zero, List.getElem_cons_succ]
  go_simp
  refine hK.out _ _ (K3.out) (fun hHeld => ?_)
  clear hK K
  try simp only [Act.put, List.setIfInBounds_toArray, List.set_cons_zero, List.set_cons_succ, List.getElem_toArray, List.getElem_cons_zero, List.getElem_cons_succ]
  refine E_take (i := 8) (oi := _) (v := ?_) rfl (by kernel_rfl) (fun _ _ _ h => h) ?_ (by assumption) ?_
  rotate_left 1
  · (refine Or.inl ⟨by rfl, ?_⟩; intro w hSw; (try dsimp only at hSw); (try simp only [List.getElem_toArray, List.getElem_cons_zero, List.getElem_cons_succ]); go_simp; (first | done | with_reducible rfl))
  try simp only [Act.put, List.setIfInBounds_toArray, List.set_cons_zero, List.set_cons_succ, List.getElem_toArray, List.getElem_cons_zero, List.getElem_cons_succ]
  refine E_last (o := _) (by kernel_rfl) rfl (by kernel_rfl) (fun K hK => ?_)
  try simp only [List.getElem_toArray, List.getElem_cons_zero, List.getElem_cons_succ]
  go_simp
  refine hK.out _ _ ?_
  clear hK K
  have P1 : Hid (((w2.setCell ⟨w.heap.size, 3, none⟩ (.slice x1 sn y1)).setCell ⟨w.heap.size, 4, none⟩ (.slice x2 on y2)).heap[w.heap.size]? = some (.cells #[.int .i64 pc, .int .i64 sp, .int .i64 fp, .slice x1 sn y1, .slice x2 on y2, .int .i64 stt, .int .i64 val] 30 (0, 0))) := Lib.hid (heap_setCell_at (heap_setCell_at (HX.out _ B2.out).1 _) _)
  have P2 : Hid (((w2.setCell ⟨w.heap.size, 3, none⟩ (.slice x1 sn y1)).setCell ⟨w.heap.size, 4, none⟩ (.slice x2 on y2)).heap[w.heap.size + 1]? = some (.cells #[.int .i64 0, .int .i64 0, .int .i64 0, .slice none 0 0, .slice none 0 0, .int .i64 0, .int .i64 0] 30 (0, 0))) := Lib.hid ((set_other (by omega)).trans ((set_other (by omega)).trans (HX.out _ B2.out).2.1))
  have PB : Hid (Below w.heap.size w ((w2.setCell ⟨w.heap.size, 3, none⟩ (.slice x1 sn y1)).setCell ⟨w.heap.size, 4, none⟩ (.slice x2 on y2))) := Lib.hid (((HX.out _ B2.out).2.2.setCell (Nat.le_refl _) _).setCell (Nat.le_refl _) _)
  have Q1 : Hid (((w2.setCell ⟨w.heap.size, 3, none⟩ (.slice x1 sn y1)).setCell ⟨w.heap.size, 4, none⟩ (.slice x2 on y2)).ownsRow (w.heap.size + 2) 3 1 (.slice x1 sn y1) sn (intV st)) := Lib.hid (owns_set (owns_set (owns_lo HO1'.out (by have := HZ0.out; exact Nat.le_of_eq this.symm)) (by omega)) (by omega))
  have Q2 : Hid (((w2.setCell ⟨w.heap.size, 3, none⟩ (.slice x1 sn y1)).setCell ⟨w.heap.size, 4, none⟩ (.slice x2 on y2)).ownsRow (w.heap.size + 2) 3 1 (.slice x2 on y2) on (intV out)) := Lib.hid (owns_set (owns_set (owns_lo HO2.out (by have := HZ0.out; exact Nat.le_of_eq this.symm)) (by omega)) (by omega))
  obtain ⟨W3, hW3⟩ : ∃ W, (w2.setCell ⟨w.heap.size, 3, none⟩ (.slice x1 sn y1)).setCell ⟨w.heap.size, 4, none⟩ (.slice x2 on y2) = W := ⟨_, rfl⟩
  rw [hW3] at P1 P2 PB Q1 Q2
  rw [hW3]
  clear hW3 q0 q1 q2 q3 q4 q5 q6 gq lq K0 K1 K2 K3
  obtain ⟨⟨q0, q1, q2, q3, q4, q5, q6⟩, _, _⟩ := res_cells7 P1.out
  obtain ⟨⟨z0, z1, z2, z3, z4, z5, z6⟩, gz, lz⟩ := res_cells7 P2.out
  go_wp2
  refine bodyPost_ret (v := .agg #[.int .i64 pc, .int .i64 sp, .int .i64 fp, .slice x1 sn y1, .slice x2 on y2, .int .i64 stt, .int .i64 val]) (by simp [results, Tryz.results26, go_sem, z0, z1, z2, z3, z4, z5, z6]) rfl ⟨_, _, rfl, ?_, ?_, HAP.out, ?_⟩
  · dsimp only
    rw [HSN.out]
    exact owns_lo (owns_set (owns_set (owns_set (owns_set (owns_set (owns_set (owns_set Q1.out (by omega)) (by omega)) (by omega)) (by omega)) (by omega)) (by omega)) (by omega)) (by omega)
  · dsimp only
    rw [HON.out]
    exact owns_lo (owns_set (owns_set (owns_set (owns_set (owns_set (owns_set (owns_set Q2.out (by omega)) (by omega)) (by omega)) (by omega)) (by omega)) (by omega)) (by omega)) (by omega)
  · exact ((((((PB.out.setCell (by simp) _).setCell (by simp) _).setCell (by simp) _).setCell (by simp) _).setCell (by simp) _).setCell (by simp) _).setCell (by simp) _
end Go.Proofs.YtakgjlpgcepnkaaGreat

/-! The program's MachineOk -/
namespace Go.Proofs.YtakgjlpgcepnkaaGreat
open Go.RowKit Go.Lib

set_option maxRecDepth 100000 in
set_option maxHeartbeats 2000000 in
theorem i_machineOk (m : McL) (sa oa : Option Addr) (sc on oc : Nat) (w : World) : Calls Tryz.prog 28 #[mcA m (.slice sa m.st.length sc) (.slice oa on oc)] w fun e w' => e = .returned (.bool (mokB m)) ∧ Below w.heap.size w w' := by
  obtain ⟨pc, sp, fp, st, out, stt, val⟩ := m
  unfold mcA mcRow mokB
  dsimp only
  obtain ⟨n, hn⟩ : ∃ x, st.length = x := ⟨_, rfl⟩
  rw [hn]
  clear hn
  by_cases h0 : n = 1200
  · have d0 : ((n : Int) == 1200) = true := by rw [h0]; rfl
    by_cases h1 : 0 ≤ sp
    · have d1 : decide (0 ≤ sp) = true := by exact decide_eq_true h1
      by_cases h2 : sp ≤ 1200
      · have d2 : decide (sp ≤ 1200) = true := by exact decide_eq_true h2
        by_cases h3 : 0 ≤ stt
        · have d3 : decide (0 ≤ stt) = true := by exact decide_eq_true h3
          by_cases h4 : stt ≤ 2
          · have d4 : decide (stt ≤ 2) = true := by exact decide_eq_true h4
            have HR : Hid (Ending.returned (.bool true) = .returned (.bool (decide (n = 1200) && (decide (0 ≤ sp) && (decide (sp ≤ 1200) && (decide (0 ≤ stt) && decide (stt ≤ 2))))))) := Lib.hid (by simp [h0, h1, h2, h3, h4])
            clear h0 h1 h2 h3 h4
            go_enter Tryz.func28, Tryz.ntmps28
            go_wp2_with fail
            go_ret
            exact ⟨HR.out, (Below.refl _ _).alloc (Nat.le_refl _) _⟩
          · have d4 : decide (stt ≤ 2) = false := by exact decide_eq_false h4
            have HR : Hid (Ending.returned (.bool false) = .returned (.bool (decide (n = 1200) && (decide (0 ≤ sp) && (decide (sp ≤ 1200) && (decide (0 ≤ stt) && decide (stt ≤ 2))))))) := Lib.hid (by simp [h4])
            clear h0 h1 h2 h3 h4
            go_enter Tryz.func28, Tryz.ntmps28
            go_wp2_with fail
            go_ret
            exact ⟨HR.out, (Below.refl _ _).alloc (Nat.le_refl _) _⟩
        · have d3 : decide (0 ≤ stt) = false := by exact decide_eq_false h3
          have HR : Hid (Ending.returned (.bool false) = .returned (.bool (decide (n = 1200) && (decide (0 ≤ sp) && (decide (sp ≤ 1200) && (decide (0 ≤ stt) && decide (stt ≤ 2))))))) := Lib.hid (by simp [h3])
          clear h0 h1 h2 h3
          go_enter Tryz.func28, Tryz.ntmps28
          go_wp2_with fail
          go_ret
          exact ⟨HR.out, (Below.refl _ _).alloc (Nat.le_refl _) _⟩
      · have d2 : decide (sp ≤ 1200) = false := by exact decide_eq_false h2
        have HR : Hid (Ending.returned (.bool false) = .returned (.bool (decide (n = 1200) && (decide (0 ≤ sp) && (decide (sp ≤ 1200) && (decide (0 ≤ stt) && decide (stt ≤ 2))))))) := Lib.hid (by simp [h2])
        clear h0 h1 h2
        go_enter Tryz.func28, Tryz.ntmps28
        go_wp2_with fail
        go_ret
        exact ⟨HR.out, (Below.refl _ _).alloc (Nat.le_refl _) _⟩
    · have d1 : decide (0 ≤ sp) = false := by exact decide_eq_false h1
      have HR : Hid (Ending.returned (.bool false) = .returned (.bool (decide (n = 1200) && (decide (0 ≤ sp) && (decide (sp ≤ 1200) && (decide (0 ≤ stt) && decide (stt ≤ 2))))))) := Lib.hid (by simp [h1])
      clear h0 h1
      go_enter Tryz.func28, Tryz.ntmps28
      go_wp2_with fail
      go_ret
      exact ⟨HR.out, (Below.refl _ _).alloc (Nat.le_refl _) _⟩
  · have d0 : ((n : Int) == 1200) = false := by simp; omega
    have HR : Hid (Ending.returned (.bool false) = .returned (.bool (decide (n = 1200) && (decide (0 ≤ sp) && (decide (sp ≤ 1200) && (decide (0 ≤ stt) && decide (stt ≤ 2))))))) := Lib.hid (by simp [h0])
    clear h0
    go_enter Tryz.func28, Tryz.ntmps28
    go_wp2_with fail
    go_ret
    exact ⟨HR.out, (Below.refl _ _).alloc (Nat.le_refl _) _⟩
end Go.Proofs.YtakgjlpgcepnkaaGreat

/-! The program's StepMachine -/
namespace Go.Proofs.YtakgjlpgcepnkaaGreat
open Go.RowKit Go.Lib

theorem three_new' (w : World) (o1 o2 o3 : Obj) : (((w.alloc o1).alloc o2).alloc o3).heap[w.heap.size]? = some o1 ∧ (((w.alloc o1).alloc o2).alloc o3).heap[w.heap.size + 1]? = some o2 ∧ (((w.alloc o1).alloc o2).alloc o3).heap[w.heap.size + 2]? = some o3 ∧ (((w.alloc o1).alloc o2).alloc o3).heap.size = w.heap.size + 3 ∧ Below w.heap.size w (((w.alloc o1).alloc o2).alloc o3) := by
  obtain ⟨t1, t2, t3, t4⟩ := two_new w o1 o2
  have z : ((w.alloc o1).alloc o2).heap.size = w.heap.size + 2 := t3
  refine ⟨(Below.heap_alloc _ _ _ (by omega)).trans t1, (Below.heap_alloc _ _ _ (by omega)).trans t2, ?_, by simp, t4.alloc (by omega) _⟩
  rw [← z]
  exact heap_alloc_new _ o3
theorem set7_below {B b : Nat} {w W : World} (h : Below B w W) (hb : B ≤ b) (v0 v1 v2 v3 v4 v5 v6 : Value) : Below B w (((((((W.setCell ⟨b, 0, none⟩ v0).setCell ⟨b, 1, none⟩ v1).setCell ⟨b, 2, none⟩ v2).setCell ⟨b, 3, none⟩ v3).setCell ⟨b, 4, none⟩ v4).setCell ⟨b, 5, none⟩ v5).setCell ⟨b, 6, none⟩ v6) :=
  ((((((h.setCell hb _).setCell hb _).setCell hb _).setCell hb _).setCell hb _).setCell hb _).setCell hb _
theorem set7_other {b k : Nat} {W : World} (h : k ≠ b) (v0 v1 v2 v3 v4 v5 v6 : Value) : (((((((W.setCell ⟨b, 0, none⟩ v0).setCell ⟨b, 1, none⟩ v1).setCell ⟨b, 2, none⟩ v2).setCell ⟨b, 3, none⟩ v3).setCell ⟨b, 4, none⟩ v4).setCell ⟨b, 5, none⟩ v5).setCell ⟨b, 6, none⟩ v6).heap[k]? = W.heap[k]? :=
  (set_other h).trans ((set_other h).trans ((set_other h).trans ((set_other h).trans ((set_other h).trans ((set_other h).trans (set_other h))))))
theorem space_i {I : List ImA} {Bs E : List Int} (h : spB I Bs E = true) : ∃ x0 x1 b0 b1, I = [x0, x1] ∧ Bs = [b0, b1] ∧ SpIs x0 x1 b0 b1 E := by
  obtain ⟨x0, x1, b0, b1, e1, e2, _, _, e3⟩ := spB_is h
  exact ⟨x0, x1, b0, b1, e1, e2, e3⟩
/-- The program's step in a space, whatever it is. -/
theorem i_stepI (I : List ImA) (Bs E : List Int) (hsp : spB I Bs E = true) (a0 a1 a2 : Option Addr) (c0 c1 c2 B mb : Nat) (sv ov : Value) (m : McL) (w : World) (h : McAt B mb w sv ov m) (hB2 : B ≤ mb) (hm : McIs m) (hO : m.out.length ≤ 3000000)
    (hE64 : ∀ e ∈ E, I64 e) (hR : ∀ W, Below B w W → ReadIms W a0 I ∧ ReadI W a1 Bs ∧ ReadI W a2 E) :
    Calls Tryz.prog 29 #[.pointer (some ⟨mb, 0, none⟩), .agg #[.slice a0 I.length c0, .slice a1 Bs.length c1, .slice a2 E.length c2]] w (StepR B mb sv ov (stepM (fetI I Bs) E m) w) := by
  obtain ⟨x0, x1, b0, b1, rfl, rfl, hs⟩ := space_i hsp
  exact i_step x0 x1 b0 b1 E a0 a1 a2 c0 c1 c2 B mb sv ov m w h hB2 hm hO hs hE64 hR
theorem step_isI {I : List ImA} {Bs E : List Int} (hsp : spB I Bs E = true) (hE : ∀ e ∈ E, I64 e) {m : McL} (hm : McIs m) : McIs (stepM (fetI I Bs) E m) := by
  obtain ⟨x0, x1, b0, b1, rfl, rfl, hs⟩ := space_i hsp
  exact step_is hs hE hm
theorem cells3s' {w : World} {b T : Nat} {x0 x1 x2 : Value} (h : w.heap[b]? = some (.cells #[x0, x1, x2] T (0, 0))) : w.cell? ⟨b, 0, none⟩ = some x0 ∧ w.cell? ⟨b, 1, none⟩ = some x1 ∧ w.cell? ⟨b, 2, none⟩ = some x2 := ⟨(blk h).1 0 _ rfl, (blk h).1 1 _ rfl, (blk h).1 2 _ rfl⟩
theorem own7 {B b T n s : Nat} {w : World} {v : Value} {xs : List Value} (h : w.ownsRow B T s v n xs) (hn : v.ownBlock ≠ some b) {v0 v1 v2 v3 v4 v5 v6 : Value} : (((((((w.setCell ⟨b, 0, none⟩ v0).setCell ⟨b, 1, none⟩ v1).setCell ⟨b, 2, none⟩ v2).setCell ⟨b, 3, none⟩ v3).setCell ⟨b, 4, none⟩ v4).setCell ⟨b, 5, none⟩ v5).setCell ⟨b, 6, none⟩ v6).ownsRow B T s v n xs :=
  owns_blks h (fun g hg => set7_other (fun e => hn (by rw [hg, e])) _ _ _ _ _ _ _)
end Go.Proofs.YtakgjlpgcepnkaaGreat
