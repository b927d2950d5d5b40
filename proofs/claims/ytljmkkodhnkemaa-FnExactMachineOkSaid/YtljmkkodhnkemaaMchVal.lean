/- A machine by value: cells, rows; the model's MachineOk. -/
import Derived.Test.YtljmkkodhnkemaaRows
import Derived.Test.YtljmkkodhnkemaaMchSame
import Derived.Test.YtljmkkodhnkemaaRunMem
import Derived.Test.YtljmkkodhnkemaaNmBoth
import Derived.Outline
import Derived.Lib.Hide
import Derived.WalkSmall
namespace Go.Proofs.Ytljmkkodhnkemaa
open Go.RowKit Go.Lib

theorem res7 {w : World} {b T : Nat} {x0 x1 x2 x3 x4 x5 x6 : Value} (h : w.heap[b]? = some (.cells #[x0, x1, x2, x3, x4, x5, x6] T (0, 0))) : (w.cell? ⟨b, 0, none⟩ = some x0 ∧ w.cell? ⟨b, 1, none⟩ = some x1 ∧ w.cell? ⟨b, 2, none⟩ = some x2 ∧ w.cell? ⟨b, 3, none⟩ = some x3 ∧ w.cell? ⟨b, 4, none⟩ = some x4 ∧ w.cell? ⟨b, 5, none⟩ = some x5 ∧ w.cell? ⟨b, 6, none⟩ = some x6) ∧ (∀ j, w.frozen? ⟨b, j, none⟩ = false) ∧ b < w.heap.size :=
  ⟨⟨(blk h).1 0 _ rfl, (blk h).1 1 _ rfl, (blk h).1 2 _ rfl, (blk h).1 3 _ rfl, (blk h).1 4 _ rfl, (blk h).1 5 _ rfl, (blk h).1 6 _ rfl⟩, (blk h).2.1, (blk h).2.2⟩
theorem set7_belowS {B b : Nat} {w W : World} (h : Below B w W) (hb : B ≤ b) (v0 v1 v2 v3 v4 v5 v6 : Value) : Below B w (((((((W.setCell ⟨b, 0, none⟩ v0).setCell ⟨b, 1, none⟩ v1).setCell ⟨b, 2, none⟩ v2).setCell ⟨b, 3, none⟩ v3).setCell ⟨b, 4, none⟩ v4).setCell ⟨b, 5, none⟩ v5).setCell ⟨b, 6, none⟩ v6) :=
  ((((((h.setCell hb _).setCell hb _).setCell hb _).setCell hb _).setCell hb _).setCell hb _).setCell hb _
theorem set7_otherS {b k : Nat} {W : World} (h : k ≠ b) (v0 v1 v2 v3 v4 v5 v6 : Value) : (((((((W.setCell ⟨b, 0, none⟩ v0).setCell ⟨b, 1, none⟩ v1).setCell ⟨b, 2, none⟩ v2).setCell ⟨b, 3, none⟩ v3).setCell ⟨b, 4, none⟩ v4).setCell ⟨b, 5, none⟩ v5).setCell ⟨b, 6, none⟩ v6).heap[k]? = W.heap[k]? :=
  (set_other h).trans ((set_other h).trans ((set_other h).trans ((set_other h).trans ((set_other h).trans ((set_other h).trans (set_other h))))))
theorem own7s {B b T n s : Nat} {w : World} {v : Value} {xs : List Value} (h : w.ownsRow B T s v n xs) (hn : v.ownBlock ≠ some b) {v0 v1 v2 v3 v4 v5 v6 : Value} : (((((((w.setCell ⟨b, 0, none⟩ v0).setCell ⟨b, 1, none⟩ v1).setCell ⟨b, 2, none⟩ v2).setCell ⟨b, 3, none⟩ v3).setCell ⟨b, 4, none⟩ v4).setCell ⟨b, 5, none⟩ v5).setCell ⟨b, 6, none⟩ v6).ownsRow B T s v n xs :=
  owns_blks h (fun g hg => set7_otherS (fun e => hn (by rw [hg, e])) _ _ _ _ _ _ _)
theorem set7_rowS {b T : Nat} {W : World} {x0 x1 x2 x3 x4 x5 x6 : Value} (h : W.heap[b]? = some (.cells #[x0, x1, x2, x3, x4, x5, x6] T (0, 0))) (v0 v1 v2 v3 v4 v5 v6 : Value) : (((((((W.setCell ⟨b, 0, none⟩ v0).setCell ⟨b, 1, none⟩ v1).setCell ⟨b, 2, none⟩ v2).setCell ⟨b, 3, none⟩ v3).setCell ⟨b, 4, none⟩ v4).setCell ⟨b, 5, none⟩ v5).setCell ⟨b, 6, none⟩ v6).heap[b]? = some (.cells #[v0, v1, v2, v3, v4, v5, v6] T (0, 0)) := by
  have h0 : (W.setCell ⟨b, 0, none⟩ v0).heap[b]? = some (.cells #[v0, x1, x2, x3, x4, x5, x6] T (0, 0)) := heap_setCell_at h v0
  have h1 : ((W.setCell ⟨b, 0, none⟩ v0).setCell ⟨b, 1, none⟩ v1).heap[b]? = some (.cells #[v0, v1, x2, x3, x4, x5, x6] T (0, 0)) := heap_setCell_at h0 v1
  have h2 : (((W.setCell ⟨b, 0, none⟩ v0).setCell ⟨b, 1, none⟩ v1).setCell ⟨b, 2, none⟩ v2).heap[b]? = some (.cells #[v0, v1, v2, x3, x4, x5, x6] T (0, 0)) := heap_setCell_at h1 v2
  have h3 : ((((W.setCell ⟨b, 0, none⟩ v0).setCell ⟨b, 1, none⟩ v1).setCell ⟨b, 2, none⟩ v2).setCell ⟨b, 3, none⟩ v3).heap[b]? = some (.cells #[v0, v1, v2, v3, x4, x5, x6] T (0, 0)) := heap_setCell_at h2 v3
  have h4 : (((((W.setCell ⟨b, 0, none⟩ v0).setCell ⟨b, 1, none⟩ v1).setCell ⟨b, 2, none⟩ v2).setCell ⟨b, 3, none⟩ v3).setCell ⟨b, 4, none⟩ v4).heap[b]? = some (.cells #[v0, v1, v2, v3, v4, x5, x6] T (0, 0)) := heap_setCell_at h3 v4
  have h5 : ((((((W.setCell ⟨b, 0, none⟩ v0).setCell ⟨b, 1, none⟩ v1).setCell ⟨b, 2, none⟩ v2).setCell ⟨b, 3, none⟩ v3).setCell ⟨b, 4, none⟩ v4).setCell ⟨b, 5, none⟩ v5).heap[b]? = some (.cells #[v0, v1, v2, v3, v4, v5, x6] T (0, 0)) := heap_setCell_at h4 v5
  exact heap_setCell_at h5 v6
set_option maxRecDepth 100000 in
set_option maxHeartbeats 2000000 in
theorem s_machineOk' (m : McL) (sa oa : Option Addr) (sc on oc : Nat) (w : World) : Calls Try.prog 6 #[mcA m (.slice sa m.st.length sc) (.slice oa on oc)] w fun e w' => e = .returned (.bool (mokB m)) ∧ Below w.heap.size w w' := by
  obtain ⟨pc, sp, fp, st, out, stt, val⟩ := m
  unfold mcA mcRow mokB
  dsimp only
  obtain ⟨n, hn⟩ : ∃ x, st.length = x := ⟨_, rfl⟩
  rw [hn]
  have H1 := Lib.hid (fun W => s_in7n sp 0 1200 W)
  have H2 := Lib.hid (fun W => s_in7n stt 0 2 W)
  obtain ⟨p1, hp1⟩ : ∃ x, (decide (0 ≤ sp) && decide (sp ≤ 1200)) = x := ⟨_, rfl⟩
  obtain ⟨p2, hp2⟩ : ∃ x, (decide (0 ≤ stt) && decide (stt ≤ 2)) = x := ⟨_, rfl⟩
  rw [hp1] at H1
  rw [hp2] at H2
  have HQ : Hid ((decide (n = 1200) && (decide (0 ≤ sp) && (decide (sp ≤ 1200) && (decide (0 ≤ stt) && decide (stt ≤ 2))))) = (decide (n = 1200) && (p1 && p2))) := Lib.hid (by rw [hp2, ← Bool.and_assoc (decide (0 ≤ sp)), hp1])
  rw [HQ.out]
  clear hn hp1 hp2 HQ
  by_cases h0 : n = 1200
  · have d0 : ((n : Int) == 1200) = true := by rw [h0]; rfl
    rw [decide_eq_true h0, Bool.true_and]
    clear h0
    cases p1 with
    | true =>
      rw [Bool.true_and]
      go_enter Try.func6, Try.ntmps6
      go_wp2_with fail
      refine (H1.out _).mono ?_
      rintro e w1 ⟨rfl, rfl⟩
      go_wp2_with fail
      refine (H2.out _).mono ?_
      rintro e w1 ⟨rfl, rfl⟩
      go_wp2
      go_ret
      exact ⟨rfl, (Below.refl _ _).alloc (Nat.le_refl _) _⟩
    | false =>
      rw [Bool.false_and]
      go_enter Try.func6, Try.ntmps6
      go_wp2_with fail
      refine (H1.out _).mono ?_
      rintro e w1 ⟨rfl, rfl⟩
      go_wp2
      go_ret
      exact ⟨rfl, (Below.refl _ _).alloc (Nat.le_refl _) _⟩
  · have d0 : ((n : Int) == 1200) = false := by simp; omega
    rw [decide_eq_false h0, Bool.false_and]
    clear h0
    go_enter Try.func6, Try.ntmps6
    go_wp2
    go_ret
    exact ⟨rfl, (Below.refl _ _).alloc (Nat.le_refl _) _⟩
end Go.Proofs.Ytljmkkodhnkemaa
