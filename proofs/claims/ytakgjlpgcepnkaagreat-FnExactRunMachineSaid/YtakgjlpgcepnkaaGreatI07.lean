/- A machine by value: cells, rows; the model's MachineOk; The model's machine: an instruction is performed; it is copied; is it one?; The model's machine is copied; The model's l07Width and OpSize; What an instruction's bytes come to, plain: the model's and the program's ways; Address spaces, plain: where a byte is, when a space is one, which function an address belongs to; What is found at an address of a space is an instruction, near the beginning; a step of a machine in a space. -/
import Derived.Test.YtakgjlpgcepnkaaGreatRows
import Derived.Test.YtakgjlpgcepnkaaGreatI01
import Derived.Test.YtakgjlpgcepnkaaGreatI02
import Derived.Test.YtakgjlpgcepnkaaGreatI04
import Derived.Test.YtakgjlpgcepnkaaGreatI05
import Derived.Test.YtakgjlpgcepnkaaGreatI06
import Derived.Test.YtakgjlpgcepnkaaGreatI00
import Derived.Test.YtakgjlpgcepnkaaGreatI03
import Derived.Outline
import Derived.Lib.Hide
import Derived.WalkSmall
import Derived.Laws.OwnMore
import Derived.Below
/-! A machine by value: cells, rows; the model's MachineOk -/
namespace Go.Proofs.YtakgjlpgcepnkaaGreat
open Go.RowKit Go.Lib

theorem res7 {w : World} {b T : Nat} {x0 x1 x2 x3 x4 x5 x6 : Value} (h : w.heap[b]? = some (.cells #[x0, x1, x2, x3, x4, x5, x6] T (0, 0))) : (w.cell? ⟨b, 0, none⟩ = some x0 ∧ w.cell? ⟨b, 1, none⟩ = some x1 ∧ w.cell? ⟨b, 2, none⟩ = some x2 ∧ w.cell? ⟨b, 3, none⟩ = some x3 ∧ w.cell? ⟨b, 4, none⟩ = some x4 ∧ w.cell? ⟨b, 5, none⟩ = some x5 ∧ w.cell? ⟨b, 6, none⟩ = some x6) ∧ (∀ j, w.frozen? ⟨b, j, none⟩ = false) ∧ b < w.heap.size :=
  ⟨⟨(blk h).1 0 _ rfl, (blk h).1 1 _ rfl, (blk h).1 2 _ rfl, (blk h).1 3 _ rfl, (blk h).1 4 _ rfl, (blk h).1 5 _ rfl, (blk h).1 6 _ rfl⟩, (blk h).2.1, (blk h).2.2⟩
theorem set7_belowS {B b : Nat} {w W : World} (h : Below B w W) (hb : B ≤ b) (v0 v1 v2 v3 v4 v5 v6 : Value) : Below B w (((((((W.setCell ⟨b, 0, none⟩ v0).setCell ⟨b, 1, none⟩ v1).setCell ⟨b, 2, none⟩ v2).setCell ⟨b, 3, none⟩ v3).setCell ⟨b, 4, none⟩ v4).setCell ⟨b, 5, none⟩ v5).setCell ⟨b, 6, none⟩ v6) :=
  ((((((h.setCell hb _).setCell hb _).setCell hb _).setCell hb _).setCell hb _).setCell hb _).setCell hb _
theorem set7_otherS {b k : Nat} {W : World} (h : k ≠ b) (v0 v1 v2 v3 v4 v5 v6 : Value) : (((((((W.setCell ⟨b, 0, none⟩ v0).setCell ⟨b, 1, none⟩ v1).setCell ⟨b, 2, none⟩ v2).setCell ⟨b, 3, none⟩ v3).setCell ⟨b, 4, none⟩ v4).setCell ⟨b, 5, none⟩ v5).setCell ⟨b, 6, none⟩ v6).heap[k]? = W.heap[k]? :=
  (set_other h).trans ((set_other h).trans ((set_other h).trans ((set_other h).trans ((set_other h).trans ((set_other h).trans (set_other h))))))
theorem own7s {B b T n s : Nat} {w : World} {v : Value} {xs : List Value} (h : w.ownsRow B T s v n xs) (hn : v.ownBlock ≠ some b) {v0 v1 v2 v3 v4 v5 v6 : Value} : (((((((w.setCell ⟨b, 0, none⟩ v0).setCell ⟨b, 1, none⟩ v1).setCell ⟨b, 2, none⟩ v2).setCell ⟨b, 3, none⟩ v3).setCell ⟨b, 4, none⟩ v4).setCell ⟨b, 5, none⟩ v5).setCell ⟨b, 6, none⟩ v6).ownsRow B T s v n xs :=
  owns_blks h (fun g hg => set7_otherS (fun e => hn (by rw [hg, e])) _ _ _ _ _ _ _)
theorem set7_rowS {b T : Nat} {W : World} {x0 x1 x2 x3 x4 x5 x6 : Value} (h : W.heap[b]? = some (.cells #[x0, x1, x2, x3, x4, x5, x6] T (0, 0))) (v0 v1 v2 v3 v4 v5 v6 : Value) : (((((((W.setCell ⟨b, 0, none⟩ v0).setCell ⟨b, 1, none⟩ v1).setCell ⟨b, 2, none⟩ v2).setCell ⟨b, 3, none⟩ v3).setCell ⟨b, 4, none⟩ v4).setCell ⟨b, 5, none⟩ v5).setCell ⟨b, 6, none⟩ v6).heap[b]? = some (.cells #[v0, v1, v2, v3, v4, v5, v6] T (0, 0)) := by
  have h0 : (W.setCell ⟨b, 0, none⟩ v0).heap[b]? = some (.cells #[v0, x1, x2, x3, x4, x5, x6] T (0, 0)) := heap_setCell_at h v0
  have h1 : ((W.setCell ⟨b, 0, none⟩ v0).setCell ⟨b, 1, none⟩ v1).heap[b]? = some (.cells #[v0, v1, x2, x3, x4, x5, x6] T (0, 0)) := heap_setCell_at h0 v1
  have h2 : (((W.setCell ⟨b, 0, none⟩ v0).setCell ⟨b, 1, none⟩ v1).setCell ⟨b, 2, none⟩ v2).heap[b]? = some (.cells #[v0, v1, v2, x3, x4, x5, x6] T (0, 0)) := heap_setCell_at h1 v2
  have h3 : ((((W.setCell ⟨b, 0, none⟩ v0).setCell ⟨b, 1, none⟩ v1).setCell ⟨b, 2, none⟩ v2).setCell ⟨b, 3, none⟩ v3).heap[b]? = some (.cells #[v0, v1, v2, v3, x4, x5, x6] T (0, 0)) := heap_setCell_at h2 v3
  have h4 : (((((W.setCell ⟨b, 0, none⟩ v0).setCell ⟨b, 1, none⟩ v1).setCell ⟨b, 2, none⟩ v2).setCell ⟨b, 3, none⟩ v3).setCell ⟨b, 4, none⟩ v4).heap[b]? = some (.cells #[v0, v1, v2, v3, v4, x5, x6] T (0, 0)) := heap_setCell_at h3 v4
  have h5 : ((((((W.setCell ⟨b, 0, none⟩ v0).setCell ⟨b, 1, none⟩ v1).setCell ⟨b, 2, none⟩ v2).setCell ⟨b, 3, none⟩ v3).setCell ⟨b, 4, none⟩ v4).setCell ⟨b, 5, none⟩ v5).heap[b]? = some (.cells #[v0, v1, v2, v3, v4, v5, x6] T (0, 0)) := heap_setCell_at h4 v5
  exact heap_setCell_at h5 v6
set_option maxRecDepth 100000 in
set_option maxHeartbeats 2000000 in
theorem s_machineOk' (m : McL) (sa oa : Option Addr) (sc on oc : Nat) (w : World) : Calls Tryz.prog 21 #[mcA m (.slice sa m.st.length sc) (.slice oa on oc)] w fun e w' => e = .returned (.bool (mokB m)) ∧ Below w.heap.size w w' := by
  obtain ⟨pc, sp, fp, st, out, stt, val⟩ := m
  unfold mcA mcRow mokB
  dsimp only
  obtain ⟨n, hn⟩ : ∃ x, st.length = x := ⟨_, rfl⟩
  rw [hn]
  have H1 := Lib.hid (fun W => s_in7n sp 0 1200 W)
  have H2 := Lib.hid (fun W => s_in7n stt 0 2 W)
  obtain ⟨p1, hp1⟩ : ∃ x, (decide (0 ≤ sp) && decide (sp ≤ 1200)) = x := ⟨_, rfl⟩
  obtain ⟨p2, hp2⟩ : ∃ x, (decide (0 ≤ stt) && decide (stt ≤ 2)) = x := ⟨_, rfl⟩
  rw [hp1] at H1
  rw [hp2] at H2
  have HQ : Hid ((decide (n = 1200) && (decide (0 ≤ sp) && (decide (sp ≤ 1200) && (decide (0 ≤ stt) && decide (stt ≤ 2))))) = (decide (n = 1200) && (p1 && p2))) := Lib.hid (by rw [hp2, ← Bool.and_assoc (decide (0 ≤ sp)), hp1])
  rw [HQ.out]
  clear hn hp1 hp2 HQ
  by_cases h0 : n = 1200
  · have d0 : ((n : Int) == 1200) = true := by rw [h0]; rfl
    rw [decide_eq_true h0, Bool.true_and]
    clear h0
    cases p1 with
    | true =>
      rw [Bool.true_and]
      go_enter Tryz.func21, Tryz.ntmps21
      go_wp2_with fail
      refine (H1.out _).mono ?_
      rintro e w1 ⟨rfl, rfl⟩
      go_wp2_with fail
      refine (H2.out _).mono ?_
      rintro e w1 ⟨rfl, rfl⟩
      go_wp2
      go_ret
      exact ⟨rfl, (Below.refl _ _).alloc (Nat.le_refl _) _⟩
    | false =>
      rw [Bool.false_and]
      go_enter Tryz.func21, Tryz.ntmps21
      go_wp2_with fail
      refine (H1.out _).mono ?_
      rintro e w1 ⟨rfl, rfl⟩
      go_wp2
      go_ret
      exact ⟨rfl, (Below.refl _ _).alloc (Nat.le_refl _) _⟩
  · have d0 : ((n : Int) == 1200) = false := by simp; omega
    rw [decide_eq_false h0, Bool.false_and]
    clear h0
    go_enter Tryz.func21, Tryz.ntmps21
    go_wp2
    go_ret
    exact ⟨rfl, (Below.refl _ _).alloc (Nat.le_refl _) _⟩
end Go.Proofs.YtakgjlpgcepnkaaGreat

/-! The model's machine: an instruction is performed; it is copied; is it one? -/
namespace Go.Proofs.YtakgjlpgcepnkaaGreat
open Go.RowKit Go.Lib

set_option maxHeartbeats 2000000 in
theorem s_perform (a0 a1 a2 : Option Addr) (c0 c1 c2 : Nat) (E : List Int) (B cb : Nat) (w : World) (sv ov : Value) (s : McS) (h : MsAt B cb w sv ov s) (hE : ∀ W, Below B w W → ReadI W a2 E) (hB1 : B ≤ cb) (hO : s.1.out.length ≤ 4000000) (n : Nat) (hpc : 0 ≤ s.1.pc + (n : Int) ∧ s.1.pc + (n : Int) ≤ 3000000) (hsp : 0 ≤ s.1.sp ∧ s.1.sp ≤ 1200) (x : OpL) (hx : ArgOk x) :
    Calls Tryz.prog 41 #[.agg #[.slice a0 2 c0, .slice a1 2 c1, .slice a2 E.length c2], .pointer (some ⟨cb, 0, none⟩), .agg #[.int .i64 x.code, .int .i64 x.arg], .int .i64 (n : Int)] w (MsP B cb sv ov (perfS E x ({ s.1 with pc := s.1.pc + (n : Int) }, s.2)) w) := by
  obtain ⟨c, a⟩ := x
  obtain ⟨⟨h0, h17⟩, ha, hb, hc, hA⟩ := hx
  dsimp only at h0 h17 ha hb hc hA ⊢
  have hc' : c = 0 ∨ c = 1 ∨ c = 2 ∨ c = 3 ∨ c = 4 ∨ c = 5 ∨ c = 6 ∨ c = 7 ∨ c = 8 ∨ c = 9 ∨ c = 10 ∨ c = 11 ∨ c = 12 ∨ c = 13 ∨ c = 14 ∨ c = 15 ∨ c = 16 ∨ c = 17 := by omega
  rcases hc' with rfl | rfl | rfl | rfl | rfl | rfl | rfl | rfl | rfl | rfl | rfl | rfl | rfl | rfl | rfl | rfl | rfl | rfl
  · exact s_perf0 a0 a1 a2 c0 c1 c2 E B cb w sv ov s h hE hB1 hO n hpc hsp _ rfl a _ (by unfold perfS; dsimp only; rw [if_pos (by decide)])
  · exact s_perf1 a0 a1 a2 c0 c1 c2 E B cb w sv ov s h hE hB1 hO n hpc hsp _ rfl a (by have := ha (by decide); have := hb (by decide); omega) _ (by unfold perfS; dsimp only; rw [if_neg (by decide), if_pos (by decide)])
  · exact s_perf2 a0 a1 a2 c0 c1 c2 E B cb w sv ov s h hE hB1 hO n hpc hsp _ rfl a (by have := ha (by decide); have := hb (by decide); omega) _ (by unfold perfS; dsimp only; rw [if_neg (by decide), if_neg (by decide), if_pos (by decide)])
  · exact s_perf3 a0 a1 a2 c0 c1 c2 E B cb w sv ov s h hE hB1 hO n hpc hsp _ rfl a (by have := ha (by decide); have := hb (by decide); omega) _ (by unfold perfS; dsimp only; rw [if_neg (by decide), if_neg (by decide), if_neg (by decide), if_pos (by decide)])
  · exact s_perf4 a0 a1 a2 c0 c1 c2 E B cb w sv ov s h hE hB1 hO n hpc hsp _ rfl a (by have := ha (by decide); have := hb (by decide); omega) _ (by unfold perfS; dsimp only; rw [if_neg (by decide), if_neg (by decide), if_neg (by decide), if_neg (by decide), if_pos (by decide)])
  · exact s_perfOp a0 a1 a2 c0 c1 c2 E B cb w sv ov s h hE hB1 hO n hpc hsp _ rfl a 5 (by omega) _ (by unfold perfS; dsimp only; rw [if_neg (by decide), if_neg (by decide), if_neg (by decide), if_neg (by decide), if_neg (by decide), if_neg (by decide), if_neg (by decide), if_neg (by decide), if_neg (by decide), if_neg (by decide), if_neg (by decide), if_neg (by decide), if_neg (by decide)])
  · exact s_perfOp a0 a1 a2 c0 c1 c2 E B cb w sv ov s h hE hB1 hO n hpc hsp _ rfl a 6 (by omega) _ (by unfold perfS; dsimp only; rw [if_neg (by decide), if_neg (by decide), if_neg (by decide), if_neg (by decide), if_neg (by decide), if_neg (by decide), if_neg (by decide), if_neg (by decide), if_neg (by decide), if_neg (by decide), if_neg (by decide), if_neg (by decide), if_neg (by decide)])
  · exact s_perfOp a0 a1 a2 c0 c1 c2 E B cb w sv ov s h hE hB1 hO n hpc hsp _ rfl a 7 (by omega) _ (by unfold perfS; dsimp only; rw [if_neg (by decide), if_neg (by decide), if_neg (by decide), if_neg (by decide), if_neg (by decide), if_neg (by decide), if_neg (by decide), if_neg (by decide), if_neg (by decide), if_neg (by decide), if_neg (by decide), if_neg (by decide), if_neg (by decide)])
  · exact s_perfOp a0 a1 a2 c0 c1 c2 E B cb w sv ov s h hE hB1 hO n hpc hsp _ rfl a 8 (by omega) _ (by unfold perfS; dsimp only; rw [if_neg (by decide), if_neg (by decide), if_neg (by decide), if_neg (by decide), if_neg (by decide), if_neg (by decide), if_neg (by decide), if_neg (by decide), if_neg (by decide), if_neg (by decide), if_neg (by decide), if_neg (by decide), if_neg (by decide)])
  · exact s_perfOp a0 a1 a2 c0 c1 c2 E B cb w sv ov s h hE hB1 hO n hpc hsp _ rfl a 9 (by omega) _ (by unfold perfS; dsimp only; rw [if_neg (by decide), if_neg (by decide), if_neg (by decide), if_neg (by decide), if_neg (by decide), if_neg (by decide), if_neg (by decide), if_neg (by decide), if_neg (by decide), if_neg (by decide), if_neg (by decide), if_neg (by decide), if_neg (by decide)])
  · exact s_perf10 a0 a1 a2 c0 c1 c2 E B cb w sv ov s h hE hB1 hO n hpc hsp _ rfl a (by have := ha (by decide); omega) _ (by unfold perfS; dsimp only; rw [if_neg (by decide), if_neg (by decide), if_neg (by decide), if_neg (by decide), if_neg (by decide), if_pos (by decide)])
  · exact s_perf11 a0 a1 a2 c0 c1 c2 E B cb w sv ov s h hE hB1 hO n hpc hsp _ rfl a (by have := ha (by decide); omega) _ (by unfold perfS; dsimp only; rw [if_neg (by decide), if_neg (by decide), if_neg (by decide), if_neg (by decide), if_neg (by decide), if_neg (by decide), if_pos (by decide)])
  · exact s_perf12 a0 a1 a2 c0 c1 c2 E B cb w sv ov s h hE hB1 hO n hpc hsp _ rfl a (by have := ha (by decide); have := hc (by decide); omega) _ (by unfold perfS; dsimp only; rw [if_neg (by decide), if_neg (by decide), if_neg (by decide), if_neg (by decide), if_neg (by decide), if_neg (by decide), if_neg (by decide), if_pos (by decide)])
  · exact s_perf13 a0 a1 a2 c0 c1 c2 E B cb w sv ov s h hE hB1 hO n hpc hsp _ rfl a (by have := ha (by decide); have := hc (by decide); omega) _ (by unfold perfS; dsimp only; rw [if_neg (by decide), if_neg (by decide), if_neg (by decide), if_neg (by decide), if_neg (by decide), if_neg (by decide), if_neg (by decide), if_neg (by decide), if_pos (by decide)])
  · exact s_perf14 a0 a1 a2 c0 c1 c2 E B cb w sv ov s h hE hB1 hO n hpc hsp _ rfl a (by have := ha (by decide); have := hc (by decide); omega) _ (by unfold perfS; dsimp only; rw [if_neg (by decide), if_neg (by decide), if_neg (by decide), if_neg (by decide), if_neg (by decide), if_neg (by decide), if_neg (by decide), if_neg (by decide), if_neg (by decide), if_pos (by decide)])
  · exact s_perf15 a0 a1 a2 c0 c1 c2 E B cb w sv ov s h hE hB1 hO n hpc hsp _ rfl a (by have := ha (by decide); have := hc (by decide); omega) _ (by unfold perfS; dsimp only; rw [if_neg (by decide), if_neg (by decide), if_neg (by decide), if_neg (by decide), if_neg (by decide), if_neg (by decide), if_neg (by decide), if_neg (by decide), if_neg (by decide), if_neg (by decide), if_pos (by decide)])
  · exact s_perf16 a0 a1 a2 c0 c1 c2 E B cb w sv ov s h hE hB1 hO n hpc hsp _ rfl a (by have := ha (by decide); have := hc (by decide); omega) _ (by unfold perfS; dsimp only; rw [if_neg (by decide), if_neg (by decide), if_neg (by decide), if_neg (by decide), if_neg (by decide), if_neg (by decide), if_neg (by decide), if_neg (by decide), if_neg (by decide), if_neg (by decide), if_neg (by decide), if_pos (by decide)])
  · exact s_perf17 a0 a1 a2 c0 c1 c2 E B cb w sv ov s h hE hB1 hO n hpc hsp _ rfl a _ (by unfold perfS; dsimp only; rw [if_neg (by decide), if_neg (by decide), if_neg (by decide), if_neg (by decide), if_neg (by decide), if_neg (by decide), if_neg (by decide), if_neg (by decide), if_neg (by decide), if_neg (by decide), if_neg (by decide), if_neg (by decide), if_pos (by decide)])
end Go.Proofs.YtakgjlpgcepnkaaGreat

/-! The model's machine is copied -/
namespace Go.Proofs.YtakgjlpgcepnkaaGreat
open Go.RowKit Go.Lib

/-- A machine was handed back, its rows its own. -/
def CopS (m : McL) (w : World) (e : Ending) (w' : World) : Prop := ∃ v1 v2, e = .returned (mcA m v1 v2) ∧ w'.ownsRow w.heap.size 3 1 v1 m.st.length (intV m.st) ∧ w'.ownsRow w.heap.size 3 1 v2 m.out.length (intV m.out) ∧ Ap v1 v2 ∧ Below w.heap.size w w'
theorem run_app_ownM {P : Program} {w : World} (base : Nat) (t ty e : TypeId) (i : TypeInfo) (z : Value) (size bytes : Nat) (ht : P.underlying t = some (.slice e)) (hi : P.info? e = some i) (hz : i.zero = some z) (hsize : i.size = size) (hby : i.bytes = bytes) (hzs : z.cells.size = size) (hsz : 0 < size)
    (v : Value) (n : Nat) (xs : List Value) (hown : w.ownsRow base e size v n xs) (y : Value) (B m : Nat) (news : List Value) (hy : w.ownsRow B e size y m news) (h1 : ∀ u ∈ news, u.oneCell' = true) (h63 : n + m ≤ maxLen) (hbytes : (n + m) * bytes ≤ 140737488355328) (hbase : base ≤ w.heap.size) :
    ∃ v' w', (Builtin.append_ #[t, t] ty #[v, y]).run P w = .ok v' w' ∧ w'.ownsRow base e size v' (n + m) (xs ++ news) ∧ w.grownBy w' v.ownBlock := by
  rcases hy.2 with ⟨rfl, rfl⟩ | ⟨g, c, cur, rfl, _⟩
  · have h0 : news = [] := List.length_eq_zero_iff.1 (by have := hy.1; omega)
    subst h0
    exact ⟨v, w, run_append_owned_none w base t ty e i size ht hi v n xs hown, by simpa using hown, World.grownBy.refl _ _⟩
  · obtain ⟨v', w', h2, h3, h4, _⟩ := run_append_own (P := P) (w := w) base t ty e i z size bytes ht hi hz hsize hby hzs hsz v n xs hown ⟨g, 0, none⟩ m c news hy.1 (hy.cells rfl) h1 h63 hbytes hbase
    exact ⟨v', w', h2, h3, h4⟩
theorem intV_allS (l : List Int) : ∀ u ∈ intV l, u.oneCell' = true := fun u hu => by
  unfold intV at hu
  obtain ⟨x, _, rfl⟩ := List.mem_map.1 hu
  rfl
/-- The copy of a row of numbers, at whatever world. -/
theorem run_copyI (v : Value) (l : List Int) (W : World) (h : W.ownsRow 0 3 1 v l.length (intV l)) (hl : l.length ≤ 4000000) : ∃ a c w1, (Builtin.append_ #[23, 23] 23 #[.slice (some ⟨W.heap.size, 0, none⟩) 0 0, v]).run Tryz.prog (W.alloc (.cells #[] 3)) = .ok (.slice a l.length c) w1 ∧ w1.ownsRow W.heap.size 3 1 (.slice a l.length c) l.length (intV l) ∧ Below W.heap.size W w1 := by
  obtain ⟨i0, hi, hz0, hz1, hz2⟩ := info_parts infoIntS
  have hown := World.ownsRow_lit (e := 3) (size := 1) (base := W.heap.size) W #[] 0 (Nat.le_refl _) (by decide) rfl
  obtain ⟨v', w1, hr, h1, hg⟩ := run_app_ownM (P := Tryz.prog) W.heap.size 23 23 3 i0 _ 1 8 Tryz.underlying23 hi hz0 hz1 hz2 rfl (by decide) _ 0 _ hown v 0 l.length (intV l) (h.alloc _) (intV_allS l) (by unfold maxLen; omega) (by omega) (by simp)
  have h1' : w1.ownsRow W.heap.size 3 1 v' l.length (intV l) := by
    have h := h1
    rw [Nat.zero_add] at h
    exact h
  obtain ⟨a, c, rfl⟩ := owns_shape h1'
  exact ⟨a, c, w1, hr, h1', ((Below.refl W.heap.size W).alloc (Nat.le_refl _) _).grown hg (by simp) (fun j hj => Nat.le_of_eq (Option.some.inj hj))⟩
set_option maxRecDepth 100000 in
set_option maxHeartbeats 4000000 in
theorem s_copy (m : McL) (sv ov : Value) (w : World) (hs : w.ownsRow 0 3 1 sv m.st.length (intV m.st)) (ho : w.ownsRow 0 3 1 ov m.out.length (intV m.out)) (h1 : m.st.length ≤ 4000000) (h2 : m.out.length ≤ 4000000) : Calls Tryz.prog 22 #[mcA m sv ov] w (CopS m w) := by
  obtain ⟨pc, sp, fp, st, out, stt, val⟩ := m
  obtain ⟨sa, sc, rfl⟩ := own_shS hs
  obtain ⟨oa, oc, rfl⟩ := own_shS ho
  unfold mcA mcRow
  dsimp only at hs ho h1 h2 ⊢
  have T2 := Lib.hid (two_new w (.cells #[.int .i64 pc, .int .i64 sp, .int .i64 fp, .slice sa st.length sc, .slice oa out.length oc, .int .i64 stt, .int .i64 val] 30) (.cells #[.int .i64 0, .int .i64 0, .int .i64 0, .slice none 0 0, .slice none 0 0, .int .i64 0, .int .i64 0] 30))
  obtain ⟨W0, hW0⟩ : ∃ W, (w.alloc (.cells #[.int .i64 pc, .int .i64 sp, .int .i64 fp, .slice sa st.length sc, .slice oa out.length oc, .int .i64 stt, .int .i64 val] 30)).alloc (.cells #[.int .i64 0, .int .i64 0, .int .i64 0, .slice none 0 0, .slice none 0 0, .int .i64 0, .int .i64 0] 30) = W := ⟨_, rfl⟩
  rw [hW0] at T2
  have HW0 := Lib.hid hW0
  obtain ⟨P0, P1, hz, HB0⟩ := T2.out
  have HZ0 : Hid (w.heap.size + 2 ≤ W0.heap.size) := Lib.hid (by omega)
  obtain ⟨x1, y1, w1, hr1, O1, B1⟩ := run_copyI (.slice sa st.length sc) st W0 (owns_below hs HB0) h1
  have Q0 := (B1.block w.heap.size (by omega)).trans P0
  have Q1 := (B1.block (w.heap.size + 1) (by omega)).trans P1
  have HBa : Below w.heap.size w (w1.setCell ⟨w.heap.size, 3, none⟩ (.slice x1 st.length y1)) := (HB0.trans (B1.mono (by omega))).setCell (Nat.le_refl _) _
  obtain ⟨x2, y2, w2, hr2, O2, B2⟩ := run_copyI (.slice oa out.length oc) out (w1.setCell ⟨w.heap.size, 3, none⟩ (.slice x1 st.length y1)) (owns_below ho HBa) h2
  have hzs : (w1.setCell ⟨w.heap.size, 3, none⟩ (.slice x1 st.length y1)).heap.size = w1.heap.size := by simp [World.setCell]
  have hz1 := B1.size
  rw [hzs] at hr2
  have S0 := (B2.block w.heap.size (by omega)).trans (heap_setCell_at Q0 _)
  have S1 := (B2.block (w.heap.size + 1) (by omega)).trans ((set_other (by omega)).trans Q1)
  have HAP : Hid (Ap (.slice x1 st.length y1) (.slice x2 out.length y2)) := Lib.hid (fun g e e' => by have h1 := (O1.lt g e).2; have h2 := (O2.lt g e').1; omega)
  have V1 : Hid (w2.ownsRow (w.heap.size + 2) 3 1 (.slice x1 st.length y1) st.length (intV st)) := Lib.hid (owns_below (owns_set (owns_lo O1 HZ0.out) (by omega)) B2)
  have V2 : Hid (w2.ownsRow (w.heap.size + 2) 3 1 (.slice x2 out.length y2) out.length (intV out)) := Lib.hid (owns_lo O2 (by omega))
  have HB2 : Hid (Below w.heap.size w w2) := Lib.hid (HBa.trans (B2.mono (by omega)))
  have HR1 := Lib.hid hr1
  have HR2 := Lib.hid hr2
  obtain ⟨K0, K1, HQ0⟩ : Hid (W0.heap[w.heap.size]? = _) ∧ Hid (w2.heap[w.heap.size]? = _) ∧ Hid (w1.heap[w.heap.size]? = _) := ⟨Lib.hid P0, Lib.hid S0, Lib.hid Q0⟩
  have K2 := Lib.hid S1
  obtain ⟨sn, hsn⟩ : ∃ x, st.length = x := ⟨_, rfl⟩
  obtain ⟨on, hon⟩ : ∃ x, out.length = x := ⟨_, rfl⟩
  have HSN := Lib.hid hsn
  have HON := Lib.hid hon
  rw [hsn] at HR1 HR2 V1 HAP K1 HW0 K0 HQ0
  rw [hon] at HR2 V2 HAP HW0 K0 HQ0 K1
  rw [hsn, hon]
  clear hs ho h1 h2 hW0 T2 P0 P1 hz HB0 hr1 O1 B1 Q0 Q1 HBa hr2 O2 B2 hzs hz1 S0 S1 hsn hon
  go_enter Tryz.func22, Tryz.ntmps22
  go_upto_region 1 with fail
  rw [HW0.out]
  have k3 : (W0.alloc (.cells #[] 3)).cell? ⟨w.heap.size, 3, none⟩ = some (.slice sa sn sc) := (alloc_cellS (blk K0.out).2.2).trans ((blk K0.out).1 3 _ rfl)
  obtain ⟨⟨j0, j1, j2, j3, j4, j5, j6⟩, gj, lj⟩ := res7 HQ0.out
  have k4 : ((w1.setCell ⟨w.heap.size, 3, none⟩ (.slice x1 sn y1)).alloc (.cells #[] 3)).cell? ⟨w.heap.size, 4, none⟩ = some (.slice oa on oc) := (alloc_cellS (by simpa [World.setCell] using lj)).trans ((blk (heap_setCell_at HQ0.out _)).1 4 _ rfl)
  obtain ⟨⟨i0, i1, i2, i3, i4, i5, i6⟩, gi, li⟩ := res7 K1.out
  go_upto_region 3 with (at_builtin; first
    | (have h := HR1; clear HR1; refine wpList_append_run rfl _ _ 23 rfl _ _ _ rfl rfl h.out ?_; clear h)
    | (refine wpList_append_run rfl _ _ 23 rfl _ _ _ rfl rfl HR2.out ?_))
  have L0 := Lib.hid (heap_setCell_at (j := 4) K1.out (.slice x2 on y2))
  have L1 : Hid ((w2.setCell ⟨w.heap.size, 4, none⟩ (.slice x2 on y2)).heap[w.heap.size + 1]? = some (.cells #[.int .i64 0, .int .i64 0, .int .i64 0, .slice none 0 0, .slice none 0 0, .int .i64 0, .int .i64 0] 30 (0, 0))) := Lib.hid ((set_other (by omega)).trans K2.out)
  have M1 : Hid ((w2.setCell ⟨w.heap.size, 4, none⟩ (.slice x2 on y2)).ownsRow (w.heap.size + 2) 3 1 (.slice x1 sn y1) st.length (intV st)) := Lib.hid (by rw [show st.length = sn from HSN.out]; exact owns_set V1.out (by omega))
  have M2 : Hid ((w2.setCell ⟨w.heap.size, 4, none⟩ (.slice x2 on y2)).ownsRow (w.heap.size + 2) 3 1 (.slice x2 on y2) out.length (intV out)) := Lib.hid (by rw [show out.length = on from HON.out]; exact owns_set V2.out (by omega))
  have HB3 : Hid (Below w.heap.size w (w2.setCell ⟨w.heap.size, 4, none⟩ (.slice x2 on y2))) := Lib.hid (HB2.out.setCell (Nat.le_refl _) _)
  obtain ⟨W3, hW3⟩ : ∃ W, w2.setCell ⟨w.heap.size, 4, none⟩ (.slice x2 on y2) = W := ⟨_, rfl⟩
  rw [hW3] at L0 L1 M1 M2 HB3
  rw [hW3]
  clear hW3 j0 j1 j2 j3 j4 j5 j6 gj lj k3 k4 i0 i1 i2 i3 i4 i5 i6 gi li
  obtain ⟨⟨j0, j1, j2, j3, j4, j5, j6⟩, gj, lj⟩ := res7 L0.out
  obtain ⟨⟨z0, z1, z2, z3, z4, z5, z6⟩, gz, lz⟩ := res7 L1.out
  go_wp2
  refine bodyPost_ret (v := .agg #[.int .i64 pc, .int .i64 sp, .int .i64 fp, .slice x1 sn y1, .slice x2 on y2, .int .i64 stt, .int .i64 val]) (by simp [results, Tryz.results22, go_sem, z0, z1, z2, z3, z4, z5, z6]) rfl ⟨_, _, rfl, ?_, ?_, HAP.out, ?_⟩
  · exact owns_lo (own7s M1.out (ne_types M1.out L1.out (by decide))) (by omega)
  · exact owns_lo (own7s M2.out (ne_types M2.out L1.out (by decide))) (by omega)
  · exact set7_belowS HB3.out (by omega) _ _ _ _ _ _ _
end Go.Proofs.YtakgjlpgcepnkaaGreat

/-! The model's l07Width and OpSize -/
namespace Go.Proofs.YtakgjlpgcepnkaaGreat
open Go.RowKit Go.Lib

theorem ret_b7 {a b : Bool} (h : a = b) : Ending.returned (.bool a) = .returned (.bool b) := by rw [h]
theorem ret_i7 {k : IntKind} {a b : Int} (h : a = b) : Ending.returned (.int k a) = .returned (.int k b) := by rw [h]

/-- A code with an argument, or none of them. -/
theorem code_cases (c : Int) : c = 0 ∨ c = 1 ∨ c = 2 ∨ c = 3 ∨ c = 4 ∨ c = 10 ∨ c = 11 ∨ c = 16 ∨ c = 12 ∨ c = 13 ∨ c = 14 ∨ c = 15 ∨
    ((c == 0) = false ∧ (c == 1) = false ∧ (c == 2) = false ∧ (c == 3) = false ∧ (c == 4) = false ∧ (c == 10) = false ∧ (c == 11) = false ∧ (c == 16) = false ∧ (c == 12) = false ∧ (c == 13) = false ∧ (c == 14) = false ∧ (c == 15) = false) := by
  simp only [beq_eq_false_iff_ne]
  omega
theorem widN_none (c : Int) (h : (c == 0) = false ∧ (c == 1) = false ∧ (c == 2) = false ∧ (c == 3) = false ∧ (c == 4) = false ∧ (c == 10) = false ∧ (c == 11) = false ∧ (c == 16) = false ∧ (c == 12) = false ∧ (c == 13) = false ∧ (c == 14) = false ∧ (c == 15) = false) : widN c = 0 ∧ sgnB c = false := by
  simp only [beq_eq_false_iff_ne] at h
  unfold widN sgnB
  rw [if_neg (by omega), if_neg (by omega), if_neg (by omega)]
  refine ⟨rfl, ?_⟩
  simp only [Bool.or_eq_false_iff, Bool.and_eq_false_iff, decide_eq_false_iff_not]
  omega

theorem s_wid (c : Int) (w : World) : Calls Tryz.prog 92 #[.int .i64 c] w fun e w' => e = .returned (.tuple #[.int .i64 (widN c : Int), .bool (sgnB c)]) ∧ w = w' := by
  rcases code_cases c with rfl | rfl | rfl | rfl | rfl | rfl | rfl | rfl | rfl | rfl | rfl | rfl | h
  case inr.inr.inr.inr.inr.inr.inr.inr.inr.inr.inr.inr =>
    have HW := Lib.hid (widN_none c h)
    obtain ⟨h0, h1, h2, h3, h4, h5, h6, h7, h8, h9, h10, h11⟩ := h
    go_enter Tryz.func92, Tryz.ntmps92
    go_wp2
    go_ret2
    exact ⟨by rw [HW.out.1, HW.out.2]; rfl, rfl⟩
  all_goals
    go_enter Tryz.func92, Tryz.ntmps92
    go_wp2
    go_ret2
    exact ⟨rfl, rfl⟩

theorem s_in7 (x lo hi : Int) (w : World) : Calls Tryz.prog 35 #[.int .i64 x, .int .i64 lo, .int .i64 hi] w fun e w' => e = .returned (.bool (decide (lo ≤ x) && decide (x ≤ hi))) ∧ w = w' := by
  by_cases h1 : lo ≤ x <;> by_cases h2 : x ≤ hi
  all_goals
    go_enter Tryz.func35, Tryz.ntmps35
    go_wp2
    go_ret
    exact ⟨ret_b7 (by simp [h1, h2]), rfl⟩

theorem s_code (c : Int) (w : World) : Calls Tryz.prog 35 #[.int .i64 c, .int .i64 0, .int .i64 17] w fun e w' => e = .returned (.bool (codeB c)) ∧ w = w' := s_in7 c 0 17 w

theorem s_size (c : Int) (w : World) : Calls Tryz.prog 93 #[.int .i64 c] w fun e w' => e = .returned (.int .i64 (sizZ c)) ∧ w = w' := by
  have hw := widN_le c
  obtain ⟨m, hm⟩ : ∃ m : Nat, widN c = m := ⟨_, rfl⟩
  have S := Lib.hid (fun W => s_wid c W)
  rw [hm] at S hw
  have C := Lib.hid (fun W => s_code c W)
  have HR : Hid (sizZ c = if codeB c = true then 1 + (m : Int) else 0) := Lib.hid (by unfold sizZ; rw [hm])
  clear hm
  obtain ⟨b, hb⟩ : ∃ b, codeB c = b := ⟨_, rfl⟩
  rw [hb] at C HR
  clear hb
  cases b
  all_goals
    go_enter Tryz.func93, Tryz.ntmps93
    go_wp2_with (first | (go_at_call 35; refine (C.out _).mono ?_; rintro e w' ⟨rfl, rfl⟩) | (go_at_call 92; refine (S.out _).mono ?_; rintro e w' ⟨rfl, rfl⟩))
    go_ret
    exact ⟨ret_i7 HR.out.symm, rfl⟩

theorem fit_cases (c : Int) : (widN c = 0 ∧ sgnB c = false ∧ loZ c = 0 ∧ hiZ c = 0) ∨ (widN c = 1 ∧ sgnB c = false ∧ loZ c = 0 ∧ hiZ c = 255) ∨ (widN c = 2 ∧ sgnB c = false ∧ loZ c = 0 ∧ hiZ c = 65535) ∨
    (widN c = 2 ∧ sgnB c = true ∧ loZ c = -32768 ∧ hiZ c = 32767) ∨ (widN c = 4 ∧ sgnB c = true ∧ loZ c = -2147483648 ∧ hiZ c = 2147483647) := by
  rcases code_cases c with rfl | rfl | rfl | rfl | rfl | rfl | rfl | rfl | rfl | rfl | rfl | rfl | h
  case inr.inr.inr.inr.inr.inr.inr.inr.inr.inr.inr.inr =>
    have HW := widN_none c h
    refine .inl ⟨HW.1, HW.2, ?_, ?_⟩
    · unfold loZ; rw [HW.2]; rfl
    · unfold hiZ; rw [HW.1, HW.2]; rfl
  all_goals decide

end Go.Proofs.YtakgjlpgcepnkaaGreat

/-! What an instruction's bytes come to, plain: the model's and the program's ways -/
namespace Go.Proofs.YtakgjlpgcepnkaaGreat
open Go.RowKit Go.Lib

/-- What DecodeOp returns. -/
def decV : Option (OpL × Nat) → Value
  | none => .tuple #[.agg #[.int .i64 0, .int .i64 0], .int .i64 0, .bool false]
  | some (x, n) => .tuple #[.agg #[.int .i64 x.code, .int .i64 x.arg], .int .i64 (n : Int), .bool true]
theorem decZ_neg (l : List UInt8) (a : Int) (h : a < 0) : decZ l a = none := by unfold decZ; rw [if_pos h]
theorem decZ_far (l : List UInt8) (a : Int) (h : (l.length : Int) ≤ a) : decZ l a = none := by
  unfold decZ
  rw [if_neg (by omega), List.drop_of_length_le (by omega)]
  rfl
theorem decZ_in (l : List UInt8) (i : Nat) (h : i < l.length) : decZ l (i : Int) =
    if (l[i].toNat : Int) ≤ 17 ∧ widN (l[i].toNat : Int) ≤ (l.drop (i + 1)).length then some (⟨(l[i].toNat : Int), sgnV (l[i].toNat : Int) (valB ((l.drop (i + 1)).take (widN (l[i].toNat : Int))))⟩, 1 + widN (l[i].toNat : Int)) else none := by
  unfold decZ
  rw [if_neg (by omega), Int.toNat_natCast, List.drop_eq_getElem_cons h]
  rfl
theorem sizZ_zero (c : Int) (h0 : 0 ≤ c) : sizZ c = 0 ↔ 17 < c := by
  unfold sizZ codeB
  constructor
  · intro h
    by_cases hc : c ≤ 17
    · rw [decide_eq_true h0, decide_eq_true hc, if_pos (by decide)] at h; omega
    · omega
  · intro h
    rw [decide_eq_false (show ¬ c ≤ 17 by omega), Bool.and_false, if_neg (by simp)]
theorem sizZ_code (c : Int) (h0 : 0 ≤ c) (h1 : c ≤ 17) : sizZ c = 1 + (widN c : Int) := by
  unfold sizZ codeB
  rw [decide_eq_true h0, decide_eq_true h1, if_pos (by decide)]
/-- One byte more of a number: no sum runs over. -/
theorem next_byte (l : List UInt8) (i k : Nat) (hk : k < 4) (h : i + 1 + k < l.length) :
    wrap64 ((l[i + 1 + k].toNat : Int) * 2 ^ (8 * k)) = ((l[i + 1 + k].toNat * 256 ^ k : Nat) : Int) ∧
    wrap64 ((valB ((l.drop (i + 1)).take k) : Int) + ((l[i + 1 + k].toNat * 256 ^ k : Nat) : Int)) = (valB ((l.drop (i + 1)).take (k + 1)) : Int) ∧ valB ((l.drop (i + 1)).take k) < 4294967296 := by
  have e : (2 : Int) ^ (8 * k) = ((256 ^ k : Nat) : Int) := by rw [Int.pow_mul, Int.natCast_pow]; rfl
  have hd : k < (l.drop (i + 1)).length := by rw [List.length_drop]; omega
  have ht := valB_take (l.drop (i + 1)) k hd
  have hg : (l.drop (i + 1))[k] = l[i + 1 + k] := by simp
  rw [hg] at ht
  have hv := valB_lt ((l.drop (i + 1)).take k)
  rw [List.length_take, show min k (l.drop (i + 1)).length = k from by omega] at hv
  have hb := l[i + 1 + k].toNat_lt
  have h4 : 256 ^ k * 256 ≤ 4294967296 := by
    have := Nat.pow_le_pow_right (show 0 < 256 by decide) (show k + 1 ≤ 4 by omega)
    rw [Nat.pow_succ] at this
    exact Nat.le_trans this (by decide)
  have hb2 : l[i + 1 + k].toNat * 256 ^ k ≤ 255 * 256 ^ k := Nat.mul_le_mul_right _ (by omega)
  rw [e, ← Int.natCast_mul]
  obtain ⟨P, hP⟩ : ∃ P, l[i + 1 + k].toNat * 256 ^ k = P := ⟨_, rfl⟩
  rw [hP] at ht hb2 ⊢
  unfold wrap64
  refine ⟨?_, ?_, ?_⟩ <;> omega
end Go.Proofs.YtakgjlpgcepnkaaGreat

/-! Address spaces, plain: where a byte is, when a space is one, which function an address belongs to. Nothing of the program -/
namespace Go.Proofs.YtakgjlpgcepnkaaGreat
open Go.RowKit Go.Lib

theorem symF_found (o : Int) : ∀ (l : List SyL) (q : Nat), (∃ x ∈ l, syIn x o = true) → ∃ (k : Nat) (h : k < l.length), symF o q l = ((q + k : Nat) : Int) ∧ syIn l[k] o = true
  | [], _, h => by obtain ⟨x, hx, _⟩ := h; cases hx
  | x :: r, q, h => by
    cases hb : syIn x o with
    | true => exact ⟨0, by simp, by rw [symF, if_pos hb]; rfl, hb⟩
    | false =>
      obtain ⟨y, hy, hyo⟩ := h
      rcases List.mem_cons.1 hy with rfl | hy
      · rw [hb] at hyo; cases hyo
      · obtain ⟨k, hk, e, hs⟩ := symF_found o r (q + 1) ⟨y, hy, hyo⟩
        exact ⟨k + 1, by simpa using hk, by rw [symF, if_neg (by rw [hb]; decide), e]; congr 1; omega, by simpa using hs⟩
theorem imgF_cover (c : List UInt8) (hc : c.length ≤ 1000000) : ∀ (l : List SyL) (seen : List ByteArray) (a : Nat), imgF c seen a l = true → ∀ o : Int, (a : Int) ≤ o → o < (c.length : Int) → ∃ x ∈ l, syIn x o = true
  | [], seen, a, h, o, h1, h2 => by
    rw [imgF] at h
    have := of_decide_eq_true h
    omega
  | x :: r, seen, a, h, o, h1, h2 => by
    rw [imgF] at h
    simp only [Bool.and_eq_true, decide_eq_true_eq] at h
    obtain ⟨⟨p1, p2, p3⟩, _, _, _, p4⟩ := h
    by_cases ho : o < x.start + x.size
    · refine ⟨x, List.mem_cons_self .., ?_⟩
      unfold syIn
      simp only [Bool.and_eq_true, decide_eq_true_eq]
      omega
    · obtain ⟨y, hy, hs⟩ := imgF_cover c hc r _ _ p4 o (by omega) h2
      exact ⟨y, List.mem_cons_of_mem _ hy, hs⟩
theorem imgB_len {c : List UInt8} {l : List SyL} (h : imgB c l = true) : c.length ≤ 1000000 ∧ imgF c [] 0 l = true := by
  unfold imgB at h
  simpa only [Bool.and_eq_true, decide_eq_true_eq] using h
/-- In an image each byte belongs to a symbol. -/
theorem img_cover {c : List UInt8} {l : List SyL} (h : imgB c l = true) {o : Int} (h0 : 0 ≤ o) (h1 : o < (c.length : Int)) : ∃ (k : Nat) (hk : k < l.length), symZ l o = (k : Int) ∧ 0 ≤ l[k].start ∧ l[k].start ≤ o := by
  obtain ⟨hl, hf⟩ := imgB_len h
  obtain ⟨k, hk, e, hs⟩ := symF_found o l 0 (imgF_cover c hl l [] 0 hf o (by omega) h1)
  refine ⟨k, hk, by unfold symZ; rw [e, Nat.zero_add], ?_⟩
  unfold syIn at hs
  simp only [Bool.and_eq_true, decide_eq_true_eq] at hs
  omega

/-- Where the byte at an address is: its image and its offset; -1 and -1 if there is none. -/
def spotZ (b0 n0 b1 n1 a : Int) : Int × Int :=
  if b0 ≤ a ∧ a < b0 + n0 then (0, a - b0) else if b1 ≤ a ∧ a < b1 + n1 then (1, a - b1) else (-1, -1)
theorem spot_0 {b0 n0 b1 n1 a : Int} (h : b0 ≤ a) (h' : a < b0 + n0) : spotZ b0 n0 b1 n1 a = (0, a - b0) := by unfold spotZ; rw [if_pos ⟨h, h'⟩]
theorem spot_1 {b0 n0 b1 n1 a : Int} (h0 : ¬(b0 ≤ a ∧ a < b0 + n0)) (h : b1 ≤ a) (h' : a < b1 + n1) : spotZ b0 n0 b1 n1 a = (1, a - b1) := by unfold spotZ; rw [if_neg h0, if_pos ⟨h, h'⟩]
theorem spot_no {b0 n0 b1 n1 a : Int} (h0 : ¬(b0 ≤ a ∧ a < b0 + n0)) (h1 : ¬(b1 ≤ a ∧ a < b1 + n1)) : spotZ b0 n0 b1 n1 a = (-1, -1) := by unfold spotZ; rw [if_neg h0, if_neg h1]
theorem spot_cases (b0 n0 b1 n1 a : Int) : (spotZ b0 n0 b1 n1 a = (0, a - b0) ∧ b0 ≤ a ∧ a < b0 + n0) ∨ (spotZ b0 n0 b1 n1 a = (1, a - b1) ∧ b1 ≤ a ∧ a < b1 + n1 ∧ ¬(b0 ≤ a ∧ a < b0 + n0)) ∨ (spotZ b0 n0 b1 n1 a = (-1, -1) ∧ ¬(b0 ≤ a ∧ a < b0 + n0) ∧ ¬(b1 ≤ a ∧ a < b1 + n1)) := by
  by_cases h0 : b0 ≤ a ∧ a < b0 + n0
  · exact .inl ⟨spot_0 h0.1 h0.2, h0⟩
  · by_cases h1 : b1 ≤ a ∧ a < b1 + n1
    · exact .inr (.inl ⟨spot_1 h0 h1.1 h1.2, h1.1, h1.2, h0⟩)
    · exact .inr (.inr ⟨spot_no h0 h1, h0, h1⟩)
/-- The spot as the program has it, and whether there is one. -/
def spotV (p : Int × Int) : Value := if p.1 < 0 then .tuple #[.agg #[.int .i64 0, .int .i64 0], .bool false] else .tuple #[.agg #[.int .i64 p.1, .int .i64 p.2], .bool true]
/-- The offset where the symbol begins that holds an offset. -/
def begZ (l : List SyL) (o : Int) : Int := if symZ l o < 0 then -1 else match l[(symZ l o).toNat]? with
  | some x => x.start
  | none => -1
theorem begZ_at {l : List SyL} {o : Int} {k : Nat} (hk : k < l.length) (h : symZ l o = (k : Int)) : begZ l o = l[k].start := by
  unfold begZ
  rw [h, if_neg (by omega), Int.toNat_natCast, List.getElem?_eq_getElem hk]
theorem begZ_no {l : List SyL} {o : Int} (h : symZ l o < 0) : begZ l o = -1 := by unfold begZ; rw [if_pos h]
theorem symF_lt (o : Int) : ∀ (l : List SyL) (q : Nat), symF o q l = -1 ∨ ∃ k, k < l.length ∧ symF o q l = ((q + k : Nat) : Int)
  | [], _ => .inl rfl
  | x :: r, q => by
    by_cases hb : syIn x o = true
    · exact .inr ⟨0, by simp, by rw [symF, if_pos hb]; rfl⟩
    · rw [symF, if_neg hb]
      rcases symF_lt o r (q + 1) with h | ⟨k, hk, h⟩
      · exact .inl h
      · exact .inr ⟨k + 1, by simpa using hk, by rw [h]; congr 1; omega⟩
theorem symZ_lt (l : List SyL) (o : Int) : symZ l o = -1 ∨ ∃ k, k < l.length ∧ symZ l o = (k : Int) := by
  rcases symF_lt o l 0 with h | ⟨k, hk, h⟩
  · exact .inl h
  · exact .inr ⟨k, hk, by unfold symZ; rw [h, Nat.zero_add]⟩

/-- One image with its base, as a space has it. -/
def okIB (x : ImA) (b : Int) : Bool := imgB x.s.data.toList x.l && (decide (1 ≤ b) && decide (b ≤ 1000000))
def ovB (x0 x1 : ImA) (b0 b1 : Int) : Bool := decide (b0 < b0 + (x0.s.size : Int)) && (decide (b1 < b1 + (x1.s.size : Int)) && (decide (b0 < b1 + (x1.s.size : Int)) && decide (b1 < b0 + (x0.s.size : Int))))
def spA (x0 x1 : ImA) (b0 b1 : Int) (a : Int) : Int × Int := spotZ b0 x0.s.size b1 x1.s.size a
def symsOf (x0 x1 : ImA) (i : Int) : List SyL := if i = 0 then x0.l else x1.l
/-- Is an address the one of the Start of a symbol? -/
def entB (x0 x1 : ImA) (b0 b1 : Int) (e : Int) : Bool := !decide ((spA x0 x1 b0 b1 e).1 < 0) && decide (begZ (symsOf x0 x1 (spA x0 x1 b0 b1 e).1) (spA x0 x1 b0 b1 e).2 = (spA x0 x1 b0 b1 e).2)
def lenB (n m k : Nat) : Bool := decide (n = 2) && (decide (m = 2) && (decide (1 ≤ k) && decide (k ≤ 6)))
def sp2B (x0 x1 : ImA) (b0 b1 : Int) (E : List Int) : Bool := (okIB x0 b0 && okIB x1 b1) && (!ovB x0 x1 b0 b1 && E.all (entB x0 x1 b0 b1))
def spB (I : List ImA) (B E : List Int) : Bool := lenB I.length B.length E.length && match I, B with
  | [x0, x1], [b0, b1] => sp2B x0 x1 b0 b1 E
  | _, _ => false
theorem spB_len {I : List ImA} {B E : List Int} (h : lenB I.length B.length E.length = false) : spB I B E = false := by unfold spB; rw [h]; rfl
theorem lenB_is {n m k : Nat} (h : lenB n m k = true) : n = 2 ∧ m = 2 ∧ 1 ≤ k ∧ k ≤ 6 := by unfold lenB at h; simpa only [Bool.and_eq_true, decide_eq_true_eq] using h
theorem list2 {α : Type} {l : List α} (h : l.length = 2) : ∃ a b, l = [a, b] := by
  match l, h with
  | [a, b], _ => exact ⟨a, b, rfl⟩
theorem spB_two {x0 x1 : ImA} {b0 b1 : Int} {E : List Int} (h : 1 ≤ E.length) (h' : E.length ≤ 6) : spB [x0, x1] [b0, b1] E = sp2B x0 x1 b0 b1 E := by
  unfold spB lenB
  rw [decide_eq_true h, decide_eq_true h']
  rfl
theorem sp2_bad0 {x0 x1 : ImA} {b0 b1 : Int} {E : List Int} (h : okIB x0 b0 = false) : sp2B x0 x1 b0 b1 E = false := by unfold sp2B; rw [h]; rfl
theorem sp2_bad1 {x0 x1 : ImA} {b0 b1 : Int} {E : List Int} (h : okIB x1 b1 = false) : sp2B x0 x1 b0 b1 E = false := by unfold sp2B; rw [h, Bool.and_false]; rfl
theorem sp2_ov {x0 x1 : ImA} {b0 b1 : Int} {E : List Int} (h : ovB x0 x1 b0 b1 = true) : sp2B x0 x1 b0 b1 E = false := by unfold sp2B; rw [h]; simp
theorem sp2_ent {x0 x1 : ImA} {b0 b1 : Int} {E : List Int} (h : E.all (entB x0 x1 b0 b1) = false) : sp2B x0 x1 b0 b1 E = false := by unfold sp2B; rw [h]; simp
theorem sp2_yes {x0 x1 : ImA} {b0 b1 : Int} {E : List Int} (h0 : okIB x0 b0 = true) (h1 : okIB x1 b1 = true) (h2 : ovB x0 x1 b0 b1 = false) (h3 : E.all (entB x0 x1 b0 b1) = true) : sp2B x0 x1 b0 b1 E = true := by unfold sp2B; rw [h0, h1, h2, h3]; rfl
/-- What is known of a space. -/
structure SpIs (x0 x1 : ImA) (b0 b1 : Int) (E : List Int) : Prop where
  i0 : imgB x0.s.data.toList x0.l = true
  i1 : imgB x1.s.data.toList x1.l = true
  l0 : 1 ≤ b0
  u0 : b0 ≤ 1000000
  l1 : 1 ≤ b1
  u1 : b1 ≤ 1000000
  ov : ovB x0 x1 b0 b1 = false
  en : ∀ e ∈ E, entB x0 x1 b0 b1 e = true
theorem sp2_is {x0 x1 : ImA} {b0 b1 : Int} {E : List Int} (h : sp2B x0 x1 b0 b1 E = true) : SpIs x0 x1 b0 b1 E := by
  unfold sp2B okIB at h
  simp only [Bool.and_eq_true, decide_eq_true_eq, Bool.not_eq_true', List.all_eq_true] at h
  obtain ⟨⟨⟨a, b, c⟩, d, e, f⟩, g, k⟩ := h
  exact ⟨a, d, b, c, e, f, g, k⟩
theorem spB_is {I : List ImA} {B E : List Int} (h : spB I B E = true) : ∃ x0 x1 b0 b1, I = [x0, x1] ∧ B = [b0, b1] ∧ 1 ≤ E.length ∧ E.length ≤ 6 ∧ SpIs x0 x1 b0 b1 E := by
  have hl : lenB I.length B.length E.length = true := by
    cases hq : lenB I.length B.length E.length with
    | true => rfl
    | false => rw [spB_len hq] at h; exact h.symm ▸ rfl
  obtain ⟨h1, h2, h3, h4⟩ := lenB_is hl
  obtain ⟨x0, x1, rfl⟩ := list2 h1
  obtain ⟨b0, b1, rfl⟩ := list2 h2
  rw [spB_two h3 h4] at h
  exact ⟨x0, x1, b0, b1, rfl, rfl, h3, h4, sp2_is h⟩
theorem SpIs.size0 {x0 x1 : ImA} {b0 b1 : Int} {E : List Int} (h : SpIs x0 x1 b0 b1 E) : x0.s.size ≤ 1000000 := by have := (imgB_len h.i0).1; rwa [list_len] at this
theorem SpIs.size1 {x0 x1 : ImA} {b0 b1 : Int} {E : List Int} (h : SpIs x0 x1 b0 b1 E) : x1.s.size ≤ 1000000 := by have := (imgB_len h.i1).1; rwa [list_len] at this
/-- A spot's offset lies in its image. -/
theorem SpIs.spot {x0 x1 : ImA} {b0 b1 : Int} {E : List Int} (h : SpIs x0 x1 b0 b1 E) {a i o : Int} (hs : spA x0 x1 b0 b1 a = (i, o)) (hi : 0 ≤ i) : (i = 0 ∨ i = 1) ∧ ∃ (k : Nat) (hk : k < (symsOf x0 x1 i).length), symZ (symsOf x0 x1 i) o = (k : Int) ∧ 0 ≤ ((symsOf x0 x1 i)[k]).start ∧ ((symsOf x0 x1 i)[k]).start ≤ o := by
  unfold spA at hs
  rcases spot_cases b0 x0.s.size b1 x1.s.size a with ⟨e, h1, h2⟩ | ⟨e, h1, h2, _⟩ | ⟨e, _⟩
  · rw [e] at hs
    injection hs with e1 e2
    subst e1 e2
    refine ⟨.inl rfl, ?_⟩
    have := img_cover h.i0 (o := a - b0) (by omega) (by rw [list_len]; omega)
    simpa [symsOf] using this
  · rw [e] at hs
    injection hs with e1 e2
    subst e1 e2
    refine ⟨.inr rfl, ?_⟩
    have := img_cover h.i1 (o := a - b1) (by omega) (by rw [list_len]; omega)
    simpa [symsOf] using this
  · rw [e] at hs
    injection hs with e1 e2
    omega
end Go.Proofs.YtakgjlpgcepnkaaGreat

/-! What is found at an address of a space is an instruction, near the beginning; a step of a machine in a space. Nothing of the program -/
namespace Go.Proofs.YtakgjlpgcepnkaaGreat
open Go.RowKit Go.Lib

/-- What FetchOp finds at a spot. -/
def fetP (x0 x1 : ImA) (p : Int × Int) : Option (OpL × Nat) := if p.1 < 0 then none else decZ (if p.1 = 0 then x0 else x1).s.data.toList p.2
/-- At an address. -/
def fetS (x0 x1 : ImA) (b0 b1 a : Int) : Option (OpL × Nat) := fetP x0 x1 (spA x0 x1 b0 b1 a)
theorem valB_ltM (l : List UInt8) : valB l < 256 ^ l.length := by
  induction l with
  | nil => decide
  | cons b r ih =>
    rw [valB, List.length_cons, Nat.pow_succ]
    have := b.toNat_lt
    omega
theorem dec1_is {l : List UInt8} {x : OpL} {n : Nat} (h : dec1 l = some (x, n)) : ArgOk x ∧ 1 ≤ n ∧ n ≤ 5 := by
  cases l with
  | nil => cases h
  | cons b r =>
    rw [dec1] at h
    split at h
    · rename_i hc
      obtain ⟨h17, hw⟩ := hc
      have h1 := Option.some.inj h
      injection h1 with h1 h2
      subst h1 h2
      have hv := valB_ltM (r.take (widN (b.toNat : Int)))
      rw [List.length_take, Nat.min_eq_left hw] at hv
      obtain ⟨v, hV⟩ : ∃ v, valB (r.take (widN (b.toNat : Int))) = v := ⟨_, rfl⟩
      rw [hV] at hv
      rw [hV]
      obtain ⟨c, hcc⟩ : ∃ c : Nat, b.toNat = c := ⟨_, rfl⟩
      rw [hcc] at hv h17
      rw [hcc]
      clear hV hw hcc h
      have h18 : c = 0 ∨ c = 1 ∨ c = 2 ∨ c = 3 ∨ c = 4 ∨ c = 5 ∨ c = 6 ∨ c = 7 ∨ c = 8 ∨ c = 9 ∨ c = 10 ∨ c = 11 ∨ c = 12 ∨ c = 13 ∨ c = 14 ∨ c = 15 ∨ c = 16 ∨ c = 17 := by omega
      rcases h18 with rfl | rfl | rfl | rfl | rfl | rfl | rfl | rfl | rfl | rfl | rfl | rfl | rfl | rfl | rfl | rfl | rfl | rfl
      all_goals
        simp [widN] at hv
        unfold ArgOk sgnV
        simp [widN, sgnB]
        try (split <;> omega)
        try omega
    · cases h
theorem decZ_is {l : List UInt8} {a : Int} {x : OpL} {n : Nat} (h : decZ l a = some (x, n)) : ArgOk x ∧ 1 ≤ n ∧ n ≤ 5 := by
  unfold decZ at h
  split at h
  · cases h
  · exact dec1_is h
theorem fetS_is {x0 x1 : ImA} {b0 b1 : Int} {E : List Int} (hs : SpIs x0 x1 b0 b1 E) {a : Int} {x : OpL} {n : Nat} (h : fetS x0 x1 b0 b1 a = some (x, n)) : ArgOk x ∧ 0 < a + (n : Int) ∧ a + (n : Int) ≤ 3000000 ∧ 0 < a := by
  unfold fetS fetP at h
  split at h
  · cases h
  · rename_i h0
    have hd := decZ_is h
    have s0 := hs.size0
    have s1 := hs.size1
    have l0 := hs.l0
    have l1 := hs.l1
    have u0 := hs.u0
    have u1 := hs.u1
    unfold spA at h0
    rcases spot_cases b0 x0.s.size b1 x1.s.size a with ⟨e, p1, p2⟩ | ⟨e, p1, p2, _⟩ | ⟨e, _⟩
    · exact ⟨hd.1, by omega, by omega, by omega⟩
    · exact ⟨hd.1, by omega, by omega, by omega⟩
    · rw [e] at h0
      dsimp only at h0
      omega
/-- In a space, whatever it is. -/
def fetI (I : List ImA) (B : List Int) : Int → Option (OpL × Nat) := match I, B with
  | [x0, x1], [b0, b1] => fetS x0 x1 b0 b1
  | _, _ => fun _ => none
def runZ (I : List ImA) (B E : List Int) (m : McL) (lim : Int) : McL × Nat := if spB I B E = true ∧ mokB m = true ∧ 0 ≤ lim ∧ lim ≤ 20000 then runM (fetI I B) E lim.toNat m else (m, 0)
/-- A machine's numbers are numbers. -/
structure McN (m : McL) : Prop where
  ws : ∀ v ∈ m.st, I64 v
  pc : I64 m.pc
  sp : I64 m.sp
  fp : I64 m.fp
theorem McN.is {m : McL} (h : McN m) (hk : mokB m = true) : McIs m := by
  unfold mokB at hk
  simp only [Bool.and_eq_true, decide_eq_true_eq] at hk
  exact ⟨hk.1, h.ws, h.pc, hk.2.1, hk.2.2.1, h.fp⟩
theorem fetI_can (I J : List ImA) (B : List Int) (h : psI I = psI J) : fetI I B = fetI J B := by
  have hl : I.length = J.length := by have h := congrArg List.length h; rwa [psI_len, psI_len] at h
  have key : ∀ (x0 x1 y0 y1 : ImA), psI [x0, x1] = psI [y0, y1] → ∀ b0 b1, fetS x0 x1 b0 b1 = fetS y0 y1 b0 b1 := fun x0 x1 y0 y1 hp b0 b1 => by
    unfold psI at hp
    simp only [List.map_cons, List.map_nil, List.cons.injEq, Prod.mk.injEq] at hp
    obtain ⟨⟨e0, _⟩, ⟨e1, _⟩, _⟩ := hp
    funext a
    unfold fetS fetP spA
    rw [e0, e1]
    by_cases h0 : (spotZ b0 (y0.s.size : Int) b1 (y1.s.size : Int) a).1 = 0
    · rw [if_pos h0, if_pos h0, e0]
    · rw [if_neg h0, if_neg h0, e1]
  match I, J, hl, h with
  | [], [], _, _ => rfl
  | [_], [_], _, _ => rfl
  | [x0, x1], [y0, y1], _, h =>
    match B with
    | [] => rfl
    | [_] => rfl
    | [b0, b1] => exact key x0 x1 y0 y1 h b0 b1
    | _ :: _ :: _ :: _ => rfl
  | _ :: _ :: _ :: _, _ :: _ :: _ :: _, _, _ => rfl
theorem step_none {fet : Int → Option (OpL × Nat)} {E : List Int} {m : McL} (h : stepO fet E m = none) : stepM fet E m = { m with stt := 2 } := by unfold stepM; rw [h]; rfl
theorem step_some {fet : Int → Option (OpL × Nat)} {E : List Int} {m m' : McL} (h : stepO fet E m = some m') : stepM fet E m = m' := by unfold stepM; rw [h]; rfl
/-- What holds of a machine holds behind a step. -/
theorem step_is {x0 x1 : ImA} {b0 b1 : Int} {E : List Int} (hs : SpIs x0 x1 b0 b1 E) (hE : ∀ e ∈ E, I64 e) {m : McL} (hm : McIs m) : McIs (stepM (fetS x0 x1 b0 b1) E m) := by
  cases ho : stepO (fetS x0 x1 b0 b1) E m with
  | none => rw [step_none ho]; exact ⟨hm.len, hm.ws, hm.pc, hm.s0, hm.s1, hm.fp⟩
  | some m' =>
    rw [step_some ho]
    unfold stepO at ho
    obtain ⟨y, h1, h2⟩ := bind_eq ho
    obtain ⟨z, h3, h4⟩ := bind_eq h2
    obtain ⟨f1, f2, f3, _⟩ := fetS_is hs (x := y.1) (n := y.2) h1
    have := perf_is (m := { m with pc := m.pc + (y.2 : Int) }) ⟨hm.len, hm.ws, by unfold I64; dsimp only; omega, hm.s0, hm.s1, hm.fp⟩ f1 hE ⟨f2, f3⟩ h3
    exact end_is this.1 h4
/-- The output grows by one word at most. -/
theorem perf_out {E : List Int} {x : OpL} {m m' : McL} (h : perfO E x m = some m') : m'.out.length ≤ m.out.length + 1 := by
  have po : ∀ {m : McL} {z : Int × McL}, popO m = some z → z.2.out = m.out := fun h => by obtain ⟨_, rfl⟩ := popO_eq h; rfl
  have pu : ∀ {m m' : McL} {v : Int}, pushO m v = some m' → m'.out = m.out := fun h => by obtain ⟨_, rfl⟩ := pushO_eq h; rfl
  have pt : ∀ {m m' : McL} {a v : Int}, putO m a v = some m' → m'.out = m.out := fun h => by obtain rfl := putO_eq h; rfl
  have dr : ∀ (n : Nat) {m m' : McL}, dropO n m = some m' → m'.out = m.out := fun n => by
    induction n with
    | zero => intro m m' e; obtain rfl := Option.some.inj e; rfl
    | succ n ih => intro m m' e; obtain ⟨z, h1, h2⟩ := bind_eq e; exact (ih h2).trans (po h1)
  have ze : ∀ (n : Nat) {m m' : McL}, zerosO n m = some m' → m'.out = m.out := fun n => by
    induction n with
    | zero => intro m m' e; obtain rfl := Option.some.inj e; rfl
    | succ n ih => intro m m' e; obtain ⟨z, h1, h2⟩ := bind_eq e; exact (ih h2).trans (pu h1)
  have fin : m'.out = m.out → m'.out.length ≤ m.out.length + 1 := fun e => by rw [e]; omega
  unfold perfO at h
  rcases ite_some h with ⟨c, h⟩ | ⟨n, h⟩
  · exact fin (pu h)
  rcases ite_some h with ⟨c, h⟩ | ⟨n, h⟩
  · obtain ⟨v, h1, h2⟩ := bind_eq h; exact fin (pu h2)
  rcases ite_some h with ⟨c, h⟩ | ⟨n, h⟩
  · obtain ⟨v, h1, h2⟩ := bind_eq h; exact fin ((pt h2).trans (po h1))
  rcases ite_some h with ⟨c, h⟩ | ⟨n, h⟩
  · obtain ⟨v, h1, h2⟩ := bind_eq h; exact fin (pu h2)
  rcases ite_some h with ⟨c, h⟩ | ⟨n, h⟩
  · obtain ⟨v, h1, h2⟩ := bind_eq h; exact fin ((pt h2).trans (po h1))
  rcases ite_some h with ⟨c, h⟩ | ⟨n, h⟩
  · obtain rfl := Option.some.inj h; exact fin rfl
  rcases ite_some h with ⟨c, h⟩ | ⟨n, h⟩
  · obtain ⟨v, h1, h2⟩ := bind_eq h
    obtain rfl := Option.some.inj h2
    refine fin ?_
    split
    · exact po h1
    · exact po h1
  rcases ite_some h with ⟨c, h⟩ | ⟨n, h⟩
  · rcases ite_some h with ⟨_, h⟩ | ⟨_, h⟩
    · cases h
    · obtain ⟨v, h1, h2⟩ := bind_eq h
      obtain rfl := Option.some.inj h2
      exact fin (pu (m' := v) h1)
  rcases ite_some h with ⟨c, h⟩ | ⟨n, h⟩
  · obtain ⟨v, h1, h2⟩ := bind_eq h
    exact fin ((ze _ h2).trans (pu (m' := v) h1))
  rcases ite_some h with ⟨c, h⟩ | ⟨n, h⟩
  · obtain ⟨v, h1, h⟩ := bind_eq h
    obtain ⟨f, h2, h⟩ := bind_eq h
    obtain ⟨c, h3, h⟩ := bind_eq h
    obtain ⟨y, h4, h5⟩ := bind_eq h
    have e2 : f.2.out = v.2.out := by have h := po h2; exact h
    have e3 : c.2.out = f.2.out := by have h := po h3; exact h
    have e4 : y.out = c.2.out := by have h := dr _ h4; exact h
    exact fin ((pu h5).trans (e4.trans (e3.trans (e2.trans (po h1)))))
  rcases ite_some h with ⟨c, h⟩ | ⟨n, h⟩
  · exact fin (ze _ h)
  rcases ite_some h with ⟨c, h⟩ | ⟨n, h⟩
  · obtain ⟨v, h1, h⟩ := bind_eq h
    obtain ⟨d, h2, h⟩ := bind_eq h
    obtain ⟨c, h3, h⟩ := bind_eq h
    obtain ⟨y, h4, h5⟩ := bind_eq h
    have e4 : y.out = c.2.out := by have h := dr _ h4; exact h
    exact fin ((pu h5).trans (e4.trans ((po h3).trans ((dr _ h2).trans (po h1)))))
  rcases ite_some h with ⟨c, h⟩ | ⟨n, h⟩
  · obtain ⟨v, h1, h2⟩ := bind_eq h
    obtain rfl := Option.some.inj h2
    show (v.2.out ++ [v.1]).length ≤ _
    rw [po h1, List.length_append]
    exact Nat.le_refl _
  · obtain ⟨b, h1, h⟩ := bind_eq h
    obtain ⟨a, h2, h3⟩ := bind_eq h
    exact fin ((pu h3).trans ((po h2).trans (po h1)))
theorem step_out {fet : Int → Option (OpL × Nat)} {E : List Int} {m : McL} : (stepM fet E m).out.length ≤ m.out.length + 1 := by
  cases ho : stepO fet E m with
  | none => rw [step_none ho]; exact Nat.le_succ _
  | some m' =>
    rw [step_some ho]
    unfold stepO at ho
    obtain ⟨y, h1, h2⟩ := bind_eq ho
    obtain ⟨z, h3, h4⟩ := bind_eq h2
    have h5 := perf_out h3
    unfold endO at h4
    rcases ite_some h4 with ⟨_, h4⟩ | ⟨_, h4⟩
    · obtain ⟨v, _, h6⟩ := bind_eq h4
      obtain rfl := Option.some.inj h6
      exact h5
    · obtain rfl := Option.some.inj h4
      exact h5
end Go.Proofs.YtakgjlpgcepnkaaGreat
