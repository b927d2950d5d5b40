/- The model's copies of tokens, of a line and of a row of lines. -/
import Derived.Test.YtaplbefdijcceaaGreatDoorN06
import Derived.Test.YtaplbefdijcceaaGreatDoorN03
import Derived.Deep.RegionHeld3
import Derived.Deep.DeepCutAuto
namespace Go.Proofs.YtaplbefdijcceaaGreatDoor
open Go.RowKit Go.Lib
theorem run_app_own {P : Program} {w : World} (base : Nat) (t ty e : TypeId) (i : TypeInfo) (z : Value) (size bytes : Nat) (ht : P.underlying t = some (.slice e)) (hi : P.info? e = some i) (hz : i.zero = some z) (hsize : i.size = size) (hby : i.bytes = bytes) (hzs : z.cells.size = size) (hsz : 0 < size)
    (v : Value) (n : Nat) (xs : List Value) (hown : w.ownsRow base e size v n xs) (y : Value) (B m : Nat) (news : List Value) (hy : w.ownsRow B e size y m news) (h1 : ∀ u ∈ news, u.oneCell' = true) (h63 : n + m ≤ maxLen) (hbytes : (n + m) * bytes ≤ 140737488355328) (hbase : base ≤ w.heap.size) :
    ∃ v' w', (Builtin.append_ #[t, t] ty #[v, y]).run P w = .ok v' w' ∧ w'.ownsRow base e size v' (n + m) (xs ++ news) ∧ w.grownBy w' v.ownBlock := by
  rcases hy.2 with ⟨rfl, rfl⟩ | ⟨g, c, cur, rfl, _⟩
  · have h0 : news = [] := List.length_eq_zero_iff.1 (by have := hy.1; omega)
    subst h0
    exact ⟨v, w, run_append_owned_none w base t ty e i size ht hi v n xs hown, by simpa using hown, World.grownBy.refl _ _⟩
  · obtain ⟨v', w', h2, h3, h4, _⟩ := run_append_own (P := P) (w := w) base t ty e i z size bytes ht hi hz hsize hby hzs hsz v n xs hown ⟨g, 0, none⟩ m c news hy.1 (hy.cells rfl) h1 h63 hbytes hbase
    exact ⟨v', w', h2, h3, h4⟩
theorem infoTk : (Tryz.prog.info? 49).map (fun i => (i.zero, i.size, i.bytes)) = some (some (.agg #[.int .i64 0, .int .i64 0, .string ⟨#[]⟩]), 3, 32) := by kernel_rfl
set_option maxHeartbeats 1000000 in
theorem s_copyToks (v : Value) (l : List TokL) (w : World) (h : w.ownsRow 0 49 3 v l.length (toksV l)) (hl : l.length ≤ 1048576) :
    Calls Tryz.prog 149 #[v] w (Toks 49 w.heap.size l w) := by
  obtain ⟨i0, hi, hz0, hz1, hz2⟩ := info_parts infoTk
  have hown := World.ownsRow_lit (e := 49) (size := 3) (base := w.heap.size) w #[] 0 (Nat.le_refl _) (by decide) rfl
  have h63 : 0 + l.length ≤ maxLen := by unfold maxLen; omega
  have hby : (0 + l.length) * 32 ≤ 140737488355328 := by omega
  have HB0 : Hid (Below w.heap.size w (w.alloc (.cells #[] 49))) := hid ((Below.refl _ _).alloc (Nat.le_refl _) _)
  have hz : (w.alloc (.cells #[] 49)).heap.size = w.heap.size + 1 := by simp
  obtain ⟨v', w1, hr, hown1, hgrow⟩ := run_app_own (P := Tryz.prog) w.heap.size 40 40 49 i0 _ 3 32 Tryz.underlying40 hi hz0 hz1 hz2 rfl (by decide) _ 0 _ hown v 0 l.length (toksV l) (owns3_below h HB0.out) (toks_cells1 l) h63 hby (by omega)
  have HR := hid hr
  have HO := hid (owns_toks (l := l) hown1 (by simp))
  have HB := hid (HB0.out.grown hgrow (by omega) (fun j hj => Nat.le_of_eq (Option.some.inj hj)))
  clear hr hown1 hgrow hown h
  go_enter Tryz.func149, Tryz.ntmps149
  go_wp2_with (at_builtin; refine wpList_append_run rfl _ _ 40 rfl _ _ _ rfl rfl HR.out ?_)
  go_wp2
  go_ret
  exact ⟨_, rfl, HO.out, HB.out⟩
set_option maxRecDepth 100000 in
set_option maxHeartbeats 2000000 in
theorem s_copyLine (x : LnL) (w : World) (h : InMem 9 49 w x) (ha : x.args.length ≤ 1048576) (he : x.expr.length ≤ 1048576) :
    Calls Tryz.prog 108 #[lnA x] w (LnRes 9 49 w.heap.size x.p w) := by
  obtain ⟨i0, hi, hz0, hz1, hz2⟩ := info_parts infoS4
  obtain ⟨k, nm, gs, ex, va, ve⟩ := x
  obtain ⟨hA, hE⟩ := h
  dsimp only at hA hE ha he ⊢
  obtain ⟨xa, xc, rfl⟩ := owns_shape hA
  obtain ⟨xb, xd, rfl⟩ := owns3_shape hE
  unfold lnA
  dsimp only
  have HA := hid hA
  have HE := hid hE
  have B0 : Below w.heap.size w ((w.alloc (.cells #[.int .i64 k, .string nm, .slice xa gs.length xc, .slice xb ex.length xd] 42)).alloc (.cells #[.int .i64 0, .string ⟨#[]⟩, .slice none 0 0, .slice none 0 0] 42)) := ((Below.refl _ _).alloc (Nat.le_refl _) _).alloc (by simp) _
  have X0 : ((w.alloc (.cells #[.int .i64 k, .string nm, .slice xa gs.length xc, .slice xb ex.length xd] 42)).alloc (.cells #[.int .i64 0, .string ⟨#[]⟩, .slice none 0 0, .slice none 0 0] 42)).heap[w.heap.size]? = some (.cells #[.int .i64 k, .string nm, .slice xa gs.length xc, .slice xb ex.length xd] 42 (0, 0)) := (Below.heap_alloc _ _ _ (by simp)).trans (heap_alloc_new w _)
  have X1 : ((w.alloc (.cells #[.int .i64 k, .string nm, .slice xa gs.length xc, .slice xb ex.length xd] 42)).alloc (.cells #[.int .i64 0, .string ⟨#[]⟩, .slice none 0 0, .slice none 0 0] 42)).heap[w.heap.size + 1]? = some (.cells #[.int .i64 0, .string ⟨#[]⟩, .slice none 0 0, .slice none 0 0] 42 (0, 0)) := by have := heap_alloc_new (w.alloc (.cells #[.int .i64 k, .string nm, .slice xa gs.length xc, .slice xb ex.length xd] 42)) (.cells #[.int .i64 0, .string ⟨#[]⟩, .slice none 0 0, .slice none 0 0] 42); rwa [show (w.alloc (.cells #[.int .i64 k, .string nm, .slice xa gs.length xc, .slice xb ex.length xd] 42)).heap.size = w.heap.size + 1 from by simp] at this
  have hs0 : ((w.alloc (.cells #[.int .i64 k, .string nm, .slice xa gs.length xc, .slice xb ex.length xd] 42)).alloc (.cells #[.int .i64 0, .string ⟨#[]⟩, .slice none 0 0, .slice none 0 0] 42)).drew.heap.size = w.heap.size + 1 + 1 := by show ((w.alloc (.cells #[.int .i64 k, .string nm, .slice xa gs.length xc, .slice xb ex.length xd] 42)).alloc (.cells #[.int .i64 0, .string ⟨#[]⟩, .slice none 0 0, .slice none 0 0] 42)).heap.size = _; simp
  have B1 : Below w.heap.size w (((w.alloc (.cells #[.int .i64 k, .string nm, .slice xa gs.length xc, .slice xb ex.length xd] 42)).alloc (.cells #[.int .i64 0, .string ⟨#[]⟩, .slice none 0 0, .slice none 0 0] 42)).drew.alloc (.cells #[] 9)) := B0.drew.alloc (by omega) _
  have hown := World.ownsRow_lit (e := 9) (size := 1) (base := w.heap.size + 1 + 1) ((w.alloc (.cells #[.int .i64 k, .string nm, .slice xa gs.length xc, .slice xb ex.length xd] 42)).alloc (.cells #[.int .i64 0, .string ⟨#[]⟩, .slice none 0 0, .slice none 0 0] 42)).drew #[] 0 (by omega) (by decide) rfl
  obtain ⟨v1, w1, hr, ho, hg⟩ := run_app_own (P := Tryz.prog) (w.heap.size + 1 + 1) 39 39 9 i0 _ 1 16 Tryz.underlying39 hi hz0 hz1 hz2 rfl (by decide) _ 0 _ hown (.slice xa gs.length xc) 0 gs.length (strV gs) (owns_below HA.out B1) (strV_all gs) (by unfold maxLen; omega) (by omega) (by simp)
  rw [hs0] at hr
  have hg2 := hg.block
  have HBK : Hid (∀ j, j < w.heap.size + 1 + 1 → w1.heap[j]? = ((w.alloc (.cells #[.int .i64 k, .string nm, .slice xa gs.length xc, .slice xb ex.length xd] 42)).alloc (.cells #[.int .i64 0, .string ⟨#[]⟩, .slice none 0 0, .slice none 0 0] 42)).heap[j]?) := hid (fun j hj => (hg.block j (by simp; omega) (fun e => by have := (hown.lt j e.symm).1; simp only [Value.ownBlock, Option.some.injEq] at e; omega)).trans (Below.heap_alloc _ _ j (by omega)))
  have HO1 := hid (owns_strs (l := gs) ho (by simp))
  obtain ⟨av, cv, rfl⟩ := owns_shape HO1.out
  have HBW1 : Hid (Below w.heap.size w w1) := hid (B1.grown hg B1.size (fun j hj => by have := (hown.lt j hj).1; omega))
  have hz1' : w.heap.size + 1 + 1 ≤ w1.heap.size := by have := hg.size; simp at this; omega
  have y0 := (blk ((HBK.out w.heap.size (by omega)).trans X0)).1
  have e0' := y0 0 (.int .i64 k) rfl
  have e1' := y0 1 (.string nm) rfl
  have e2' := y0 2 (.slice xa gs.length xc) rfl
  have e3' := y0 3 (.slice xb ex.length xd) rfl
  have HP1 := hid ((HBK.out (w.heap.size + 1) (by omega)).trans X1)
  have HCT := hid (s_copyToks (.slice xb ex.length xd) ex w1 (owns3_below HE.out HBW1.out) he)
  have HR := hid hr
  have KEEP : Hid (∀ W : World, Below w1.heap.size w1 W → W.cell? ⟨w.heap.size, 0, none⟩ = some (.int .i64 k) ∧ W.cell? ⟨w.heap.size, 1, none⟩ = some (.string nm) ∧ W.cell? ⟨w.heap.size, 2, none⟩ = some (.slice xa gs.length xc) ∧ W.cell? ⟨w.heap.size, 3, none⟩ = some (.slice xb ex.length xd)) := hid (fun W hb => ⟨(hb.cell (p := ⟨w.heap.size, _, none⟩) (by dsimp only; omega)).trans e0', (hb.cell (p := ⟨w.heap.size, _, none⟩) (by dsimp only; omega)).trans e1', (hb.cell (p := ⟨w.heap.size, _, none⟩) (by dsimp only; omega)).trans e2', (hb.cell (p := ⟨w.heap.size, _, none⟩) (by dsimp only; omega)).trans e3'⟩)
  have e0 := (blk X0).1 0 (.int .i64 k) rfl
  have e1 := (blk X0).1 1 (.string nm) rfl
  have e2 := (blk X0).1 2 (.slice xa gs.length xc) rfl
  have e3 := (blk X0).1 3 (.slice xb ex.length xd) rfl
  clear hA hE
  clear X0 X1 y0 hr ho hg hg2 hown B0 B1
  go_enter Tryz.func108, Tryz.ntmps108
  go_upto_region 1 with fail
  go_region_held3 (fun w' => w'.cell? ⟨w.heap.size, 0, none⟩ = some (.int .i64 k) ∧ w'.cell? ⟨w.heap.size, 1, none⟩ = some (.string nm) ∧ w'.cell? ⟨w.heap.size, 2, none⟩ = some (.slice xa gs.length xc) ∧ w'.cell? ⟨w.heap.size, 3, none⟩ = some (.slice xb ex.length xd)) (first | exact ⟨e0, e1, e2, e3⟩ | exact ⟨e0', e1', e2', e3'⟩ | exact KEEP.out _ b4 | go_keep) (first
    | (refine step_append_run rfl (.tmp 7) (.tmp 9) 39 rfl _ _ _ rfl rfl HR.out ?_)
    | (go_at_call 149; (with_reducible refine HCT.out.mono ?_); rintro e w4 ⟨ve, rfl, O4, b4⟩; obtain ⟨ax, cx, rfl⟩ := owns3_shape O4; have q1 := (b4.block _ (by omega)).trans HP1.out; have d0 := (blk q1).1 0 (.int .i64 0) rfl; have d1 := (blk q1).1 1 (.string ⟨#[]⟩) rfl; have d2 := (blk q1).1 2 (.slice none 0 0) rfl; have d3 := (blk q1).1 3 (.slice none 0 0) rfl; have g10 := (blk q1).2.1 0; have g11 := (blk q1).2.1 1; have g12 := (blk q1).2.1 2; have g13 := (blk q1).2.1 3; have m1 := (blk q1).2.2))
  all_goals
    have HB4 : Hid (Below w.heap.size w w4) := hid (HBW1.out.trans (b4.mono (by omega)))
    have HO14 := hid (owns_below HO1.out b4)
    have HO4 := hid O4
    clear b4 O4 q1
    go_wp2
    refine bodyPost_ret (v := .agg #[.int .i64 k, .string nm, .slice av gs.length cv, .slice ax ex.length cx]) (by simp [results, Tryz.results108, go_sem, d0, d1, d2, d3, m1]) rfl ⟨.slice av gs.length cv, .slice ax ex.length cx, rfl, ?_, ?_, ?_⟩
    · exact owns_lo (owns_set (owns_set (owns_set (owns_set HO14.out (by omega)) (by omega)) (by omega)) (by omega)) (by omega)
    · exact owns_lo (owns_set (owns_set (owns_set (owns_set HO4.out (by omega)) (by omega)) (by omega)) (by omega)) (by omega)
    · exact (((HB4.out.setCell (by simp) _).setCell (by simp) _).setCell (by simp) _).setCell (by simp) _
end Go.Proofs.YtaplbefdijcceaaGreatDoor
