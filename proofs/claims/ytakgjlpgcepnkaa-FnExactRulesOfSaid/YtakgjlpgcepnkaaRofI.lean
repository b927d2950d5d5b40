/- RulesOf, the program's. -/
import Derived.Test.YtakgjlpgcepnkaaRows
import Derived.Test.YtakgjlpgcepnkaaRofPlain
import Derived.Test.YtakgjlpgcepnkaaRuTo
import Derived.Test.YtakgjlpgcepnkaaPlaRow
import Derived.Test.YtakgjlpgcepnkaaHeldEnd
import Derived.Test.YtakgjlpgcepnkaaOpImplA
import Derived.Deep.RegionHeld3
import Derived.Deep.Cut
import Derived.Deep.DeepCutAuto
import Derived.Deep.QuietTactic
import Derived.BigQuiet
namespace Go.Proofs.Ytakgjlpgcepnkaa
open Go.RowKit Go.Lib

theorem below_appR {B e n s : Nat} {w0 wr w1 : World} {X : Obj} {v : Value} {xs : List Value} (hown : wr.ownsRow B e s v n xs) (hbel : Below B w0 wr) (hB : B ≤ wr.heap.size)
    (hg : (wr.alloc X).grownBy w1 v.ownBlock) : Below B w0 w1 :=
  (hbel.alloc hB X).grown hg (by simp; omega) (fun k hk => (hown.lt k hk).1)
theorem ret_bRf {p q : Bool} (h : p = q) : Ending.returned (.bool p) = .returned (.bool q) := by rw [h]
theorem i_isAdR (x : Int) (w : World) : Calls Try.prog 36 #[.int .i64 x] w fun e w' => e = .returned (.bool (decide (0 ≤ x) && decide (x ≤ 1000000))) ∧ w = w' := by
  by_cases h1 : 0 ≤ x <;> by_cases h2 : x ≤ 1000000
  all_goals
    go_enter Try.func36, Try.ntmps36
    go_wp2
    go_ret
    exact ⟨ret_bRf (by simp [h1, h2]), rfl⟩
theorem i_plEnd (of co ar li : Int) (st : Bool) (v : Value) (de : Int) (en : Bool) (w : World) (h0 : 0 ≤ of) (h1 : of ≤ 1000000) :
    Calls Try.prog 61 #[.agg #[.int .i64 of, .int .i64 co, .int .i64 ar, .int .i64 li, .bool st, v, .int .i64 de, .bool en]] w fun e w' => e = .returned (.int .i64 (of + sizZ co)) ∧ Below w.heap.size w w' := by
  have HB : Hid (Below w.heap.size w (w.alloc (.cells #[.int .i64 of, .int .i64 co, .int .i64 ar, .int .i64 li, .bool st, v, .int .i64 de, .bool en] 39))) := Lib.hid ((Below.refl _ _).alloc (Nat.le_refl _) _)
  have T0 := Lib.hid (heap_alloc_new w (.cells #[.int .i64 of, .int .i64 co, .int .i64 ar, .int .i64 li, .bool st, v, .int .i64 de, .bool en] 39))
  have SZ := Lib.hid (fun W => i_size co W)
  have hz := sizZ_in co
  obtain ⟨s, hs⟩ : ∃ s, sizZ co = s := ⟨_, rfl⟩
  rw [hs] at SZ hz ⊢
  obtain ⟨z0, z1⟩ := hz
  have u1 : IntKind.i64.wrap (of + s) = of + s := IntWalk.i64_in _ (by omega)
  clear hs
  obtain ⟨w1, hw1⟩ : ∃ W, w.alloc (.cells #[.int .i64 of, .int .i64 co, .int .i64 ar, .int .i64 li, .bool st, v, .int .i64 de, .bool en] 39) = W := ⟨_, rfl⟩
  rw [hw1] at T0 HB
  have HW := Lib.hid hw1
  have hlt : w.heap.size < w1.heap.size := (blk T0.out).2.2
  have KK : Hid (∀ W, Below w1.heap.size w1 W → W.cell? ⟨w.heap.size, 0, none⟩ = some (.int .i64 of) ∧ W.cell? ⟨w.heap.size, 1, none⟩ = some (.int .i64 co)) := Lib.hid (fun W hb => by
    have hq := (hb.block _ hlt).trans T0.out
    exact ⟨(blk hq).1 0 _ rfl, (blk hq).1 1 _ rfl⟩)
  have BD : Hid (Below w1.heap.size w1 w1.drew) := Lib.hid (Below.refl _ _).drew
  clear hw1 T0
  go_enter Try.func61, Try.ntmps61
  go_wp2_with fail
  rw [HW.out]
  obtain ⟨e0, e1⟩ := KK.out _ (Below.refl _ _)
  go_region_held3 (fun w' => w'.cell? ⟨w.heap.size, 0, none⟩ = some (.int .i64 of) ∧ w'.cell? ⟨w.heap.size, 1, none⟩ = some (.int .i64 co)) (first | with_reducible exact KK.out _ BD.out | with_reducible exact KK.out _ HB2.out)
    (first | (go_at_call 79; (with_reducible refine (SZ.out _).mono ?_); rintro e w2 ⟨rfl, b2⟩; have HB2 : Hid (Below w1.heap.size w1 w2) := Lib.hid (BD.out.trans b2); clear b2))
  all_goals
    have HBE := Lib.hid (HB.out.trans (HB2.out.mono HB.out.size))
    clear e0 e1 KK
    go_wp2
    go_ret
    exact ⟨rfl, HBE.out⟩
set_option maxRecDepth 100000 in
set_option maxHeartbeats 4000000 in
theorem i_ruleOf (of co ar li : Int) (st : Bool) (v : Value) (de : Int) (en : Bool) (w : World) (h0 : 0 ≤ of) (h1 : of ≤ 1000000) :
    Calls Try.prog 37 #[.agg #[.int .i64 of, .int .i64 co, .int .i64 ar, .int .i64 li, .bool st, v, .int .i64 de, .bool en]] w fun e w' => e = .returned (.agg #[.int .i64 of, .int .i64 (of + sizZ co), .bool en, .int .i64 de]) ∧ Below w.heap.size w w' := by
  have T2 := Lib.hid (two_new w (.cells #[.int .i64 of, .int .i64 co, .int .i64 ar, .int .i64 li, .bool st, v, .int .i64 de, .bool en] 39) (.cells #[.int .i64 0, .int .i64 0, .bool false, .int .i64 0] 43))
  obtain ⟨w1, hw1⟩ : ∃ W, (w.alloc (.cells #[.int .i64 of, .int .i64 co, .int .i64 ar, .int .i64 li, .bool st, v, .int .i64 de, .bool en] 39)).alloc (.cells #[.int .i64 0, .int .i64 0, .bool false, .int .i64 0] 43) = W := ⟨_, rfl⟩
  rw [hw1] at T2
  have HW := Lib.hid hw1
  have hlt : w1.heap.size = w.heap.size + 2 := T2.out.2.2.1
  have EN := Lib.hid (fun W => i_plEnd of co ar li st v de en W h0 h1)
  have KK : Hid (∀ W, Below w1.heap.size w1 W → (W.cell? ⟨w.heap.size, 0, none⟩ = some (.int .i64 of) ∧ W.cell? ⟨w.heap.size, 1, none⟩ = some (.int .i64 co) ∧ W.cell? ⟨w.heap.size, 2, none⟩ = some (.int .i64 ar) ∧ W.cell? ⟨w.heap.size, 3, none⟩ = some (.int .i64 li) ∧ W.cell? ⟨w.heap.size, 4, none⟩ = some (.bool st) ∧ W.cell? ⟨w.heap.size, 5, none⟩ = some (v) ∧ W.cell? ⟨w.heap.size, 6, none⟩ = some (.int .i64 de) ∧ W.cell? ⟨w.heap.size, 7, none⟩ = some (.bool en)) ∧ W.heap[w.heap.size + 1]? = some (.cells #[.int .i64 0, .int .i64 0, .bool false, .int .i64 0] 43 (0, 0))) := Lib.hid (fun W hb => by
    have hq := (hb.block w.heap.size (by omega)).trans T2.out.1
    exact ⟨⟨(blk hq).1 0 _ rfl, (blk hq).1 1 _ rfl, (blk hq).1 2 _ rfl, (blk hq).1 3 _ rfl, (blk hq).1 4 _ rfl, (blk hq).1 5 _ rfl, (blk hq).1 6 _ rfl, (blk hq).1 7 _ rfl⟩, (hb.block _ (by omega)).trans T2.out.2.1⟩)
  have HB1 : Hid (Below w.heap.size w w1) := Lib.hid T2.out.2.2.2
  clear hw1 T2
  go_enter Try.func37, Try.ntmps37
  go_upto_region 1 with fail
  rw [HW.out]
  have DD : Hid (Below w1.heap.size w1 w1.drew) := Lib.hid (Below.refl _ _).drew
  refine E_start (S := (fun w' => w'.cell? ⟨w.heap.size, 0, none⟩ = some (.int .i64 of) ∧ w'.cell? ⟨w.heap.size, 1, none⟩ = some (.int .i64 co) ∧ w'.cell? ⟨w.heap.size, 2, none⟩ = some (.int .i64 ar) ∧ w'.cell? ⟨w.heap.size, 3, none⟩ = some (.int .i64 li) ∧ w'.cell? ⟨w.heap.size, 4, none⟩ = some (.bool st) ∧ w'.cell? ⟨w.heap.size, 5, none⟩ = some (v) ∧ w'.cell? ⟨w.heap.size, 6, none⟩ = some (.int .i64 de) ∧ w'.cell? ⟨w.heap.size, 7, none⟩ = some (.bool en))) 11 (by kernel_rfl) ((KK.out _ DD.out).1) (fun hHeld => ?_)
  refine E_take (i := 0) (oi := _) (v := ?_) rfl (by kernel_rfl) (fun _ _ _ h => h) ?_ (by assumption) ?_
  rotate_left 1
  · first | (refine Or.inl ⟨by rfl, ?_⟩; intro w hSw; (try dsimp only at hSw); (try simp only [List.getElem_toArray, List.getElem_cons_zero, List.getElem_cons_succ]); go_simp; done) | (refine Or.inl ⟨by rfl, ?_⟩; intro w hSw; (try dsimp only at hSw); (try simp only [List.getElem_toArray, List.getElem_cons_zero, List.getElem_cons_succ]); go_simp; with_reducible rfl)
  try simp only [Act.put, List.setIfInBounds_toArray, List.set_cons_zero, List.set_cons_succ, List.getElem_toArray, List.getElem_cons_zero, List.getElem_cons_succ]
  refine E_take (i := 1) (oi := _) (v := ?_) rfl (by kernel_rfl) (fun _ _ _ h => h) ?_ (by assumption) ?_
  rotate_left 1
  · first | (refine Or.inl ⟨by rfl, ?_⟩; intro w hSw; (try dsimp only at hSw); (try simp only [List.getElem_toArray, List.getElem_cons_zero, List.getElem_cons_succ]); go_simp; done) | (refine Or.inl ⟨by rfl, ?_⟩; intro w hSw; (try dsimp only at hSw); (try simp only [List.getElem_toArray, List.getElem_cons_zero, List.getElem_cons_succ]); go_simp; with_reducible rfl)
  try simp only [Act.put, List.setIfInBounds_toArray, List.set_cons_zero, List.set_cons_succ, List.getElem_toArray, List.getElem_cons_zero, List.getElem_cons_succ]
  refine E_take (i := 2) (oi := _) (v := ?_) rfl (by kernel_rfl) (fun _ _ _ h => h) ?_ (by assumption) ?_
  rotate_left 1
  · first | (refine Or.inl ⟨by rfl, ?_⟩; intro w hSw; (try dsimp only at hSw); (try simp only [List.getElem_toArray, List.getElem_cons_zero, List.getElem_cons_succ]); go_simp; done) | (refine Or.inl ⟨by rfl, ?_⟩; intro w hSw; (try dsimp only at hSw); (try simp only [List.getElem_toArray, List.getElem_cons_zero, List.getElem_cons_succ]); go_simp; with_reducible rfl)
  try simp only [Act.put, List.setIfInBounds_toArray, List.set_cons_zero, List.set_cons_succ, List.getElem_toArray, List.getElem_cons_zero, List.getElem_cons_succ]
  refine E_take (i := 4) (oi := _) (v := ?_) rfl (by kernel_rfl) (fun _ _ _ h => h) ?_ (by assumption) ?_
  rotate_left 1
  · first | (refine Or.inl ⟨by rfl, ?_⟩; intro w hSw; (try dsimp only at hSw); (try simp only [List.getElem_toArray, List.getElem_cons_zero, List.getElem_cons_succ]); go_simp; done) | (refine Or.inl ⟨by rfl, ?_⟩; intro w hSw; (try dsimp only at hSw); (try simp only [List.getElem_toArray, List.getElem_cons_zero, List.getElem_cons_succ]); go_simp; with_reducible rfl)
  try simp only [Act.put, List.setIfInBounds_toArray, List.set_cons_zero, List.set_cons_succ, List.getElem_toArray, List.getElem_cons_zero, List.getElem_cons_succ]
  refine E_take (i := 5) (oi := _) (v := ?_) rfl (by kernel_rfl) (fun _ _ _ h => h) ?_ (by assumption) ?_
  rotate_left 1
  · first | (refine Or.inl ⟨by rfl, ?_⟩; intro w hSw; (try dsimp only at hSw); (try simp only [List.getElem_toArray, List.getElem_cons_zero, List.getElem_cons_succ]); go_simp; done) | (refine Or.inl ⟨by rfl, ?_⟩; intro w hSw; (try dsimp only at hSw); (try simp only [List.getElem_toArray, List.getElem_cons_zero, List.getElem_cons_succ]); go_simp; with_reducible rfl)
  try simp only [Act.put, List.setIfInBounds_toArray, List.set_cons_zero, List.set_cons_succ, List.getElem_toArray, List.getElem_cons_zero, List.getElem_cons_succ]
  refine E_take (i := 6) (oi := _) (v := ?_) rfl (by kernel_rfl) (fun _ _ _ h => h) ?_ (by assumption) ?_
  rotate_left 1
  · first | (refine Or.inl ⟨by rfl, ?_⟩; intro w hSw; (try dsimp only at hSw); (try simp only [List.getElem_toArray, List.getElem_cons_zero, List.getElem_cons_succ]); go_simp; done) | (refine Or.inl ⟨by rfl, ?_⟩; intro w hSw; (try dsimp only at hSw); (try simp only [List.getElem_toArray, List.getElem_cons_zero, List.getElem_cons_succ]); go_simp; with_reducible rfl)
  try simp only [Act.put, List.setIfInBounds_toArray, List.set_cons_zero, List.set_cons_succ, List.getElem_toArray, List.getElem_cons_zero, List.getElem_cons_succ]
  refine E_take (i := 7) (oi := _) (v := ?_) rfl (by kernel_rfl) (fun _ _ _ h => h) ?_ (by assumption) ?_
  rotate_left 1
  · first | (refine Or.inl ⟨by rfl, ?_⟩; intro w hSw; (try dsimp only at hSw); (try simp only [List.getElem_toArray, List.getElem_cons_zero, List.getElem_cons_succ]); go_simp; done) | (refine Or.inl ⟨by rfl, ?_⟩; intro w hSw; (try dsimp only at hSw); (try simp only [List.getElem_toArray, List.getElem_cons_zero, List.getElem_cons_succ]); go_simp; with_reducible rfl)
  try simp only [Act.put, List.setIfInBounds_toArray, List.set_cons_zero, List.set_cons_succ, List.getElem_toArray, List.getElem_cons_zero, List.getElem_cons_succ]
  refine E_take (i := 8) (oi := _) (v := ?_) rfl (by kernel_rfl) (fun _ _ _ h => h) ?_ (by assumption) ?_
  rotate_left 1
  · first | (refine Or.inl ⟨by rfl, ?_⟩; intro w hSw; (try dsimp only at hSw); (try simp only [List.getElem_toArray, List.getElem_cons_zero, List.getElem_cons_succ]); go_simp; done) | (refine Or.inl ⟨by rfl, ?_⟩; intro w hSw; (try dsimp only at hSw); (try simp only [List.getElem_toArray, List.getElem_cons_zero, List.getElem_cons_succ]); go_simp; with_reducible rfl)
  try simp only [Act.put, List.setIfInBounds_toArray, List.set_cons_zero, List.set_cons_succ, List.getElem_toArray, List.getElem_cons_zero, List.getElem_cons_succ]
  refine E_take (i := 9) (oi := _) (v := ?_) rfl (by kernel_rfl) (fun _ _ _ h => h) ?_ (by assumption) ?_
  rotate_left 1
  · first | (refine Or.inl ⟨by rfl, ?_⟩; intro w hSw; (try dsimp only at hSw); (try simp only [List.getElem_toArray, List.getElem_cons_zero, List.getElem_cons_succ]); go_simp; done) | (refine Or.inl ⟨by rfl, ?_⟩; intro w hSw; (try dsimp only at hSw); (try simp only [List.getElem_toArray, List.getElem_cons_zero, List.getElem_cons_succ]); go_simp; with_reducible rfl)
  try simp only [Act.put, List.setIfInBounds_toArray, List.set_cons_zero, List.set_cons_succ, List.getElem_toArray, List.getElem_cons_zero, List.getElem_cons_succ]
  refine E_ready (rs := [3]) (by kernel_rfl) (by decide) ?_
  refine AllE.cons (o := _) rfl (fun K hK => ?_) AllE.nil
  try simp only [List.getElem_toArray, List.getElem_cons_zero, List.getElem_cons_succ]
  go_simp
  refine (EN.out _).mono ?_
  rintro e w2 ⟨rfl, b2⟩
  replace DD : Hid (Below w1.heap.size w1 w2) := Lib.hid (DD.out.trans b2)
  clear b2
  go_wp2_with fail
  refine hK.out _ _ ((KK.out _ DD.out).1) (fun hHeld => ?_)
  clear hK K
  try simp only [Act.put, List.setIfInBounds_toArray, List.set_cons_zero, List.set_cons_succ, List.getElem_toArray, List.getElem_cons_zero, List.getElem_cons_succ]
  refine E_take (i := 10) (oi := _) (v := ?_) rfl (by kernel_rfl) (fun _ _ _ h => h) ?_ (by assumption) ?_
  rotate_left 1
  · first | (refine Or.inl ⟨by rfl, ?_⟩; intro w hSw; (try dsimp only at hSw); (try simp only [List.getElem_toArray, List.getElem_cons_zero, List.getElem_cons_succ]); go_simp; done) | (refine Or.inl ⟨by rfl, ?_⟩; intro w hSw; (try dsimp only at hSw); (try simp only [List.getElem_toArray, List.getElem_cons_zero, List.getElem_cons_succ]); go_simp; with_reducible rfl)
  try simp only [Act.put, List.setIfInBounds_toArray, List.set_cons_zero, List.set_cons_succ, List.getElem_toArray, List.getElem_cons_zero, List.getElem_cons_succ]
  have P2 := Lib.hid ((KK.out _ DD.out).2)
  have d0 : w2.cell? ⟨w.heap.size + 1, 0, none⟩ = some (.int .i64 0) := (blk P2.out).1 0 _ rfl
  have d1 : w2.cell? ⟨w.heap.size + 1, 1, none⟩ = some (.int .i64 0) := (blk P2.out).1 1 _ rfl
  have d2 : w2.cell? ⟨w.heap.size + 1, 2, none⟩ = some (.bool false) := (blk P2.out).1 2 _ rfl
  have d3 : w2.cell? ⟨w.heap.size + 1, 3, none⟩ = some (.int .i64 0) := (blk P2.out).1 3 _ rfl
  have k0 := (blk P2.out).2.1 0
  have k1 := (blk P2.out).2.1 1
  have k2 := (blk P2.out).2.1 2
  have k3 := (blk P2.out).2.1 3
  have m1 := (blk P2.out).2.2
  refine E_last (o := _) (by kernel_rfl) rfl (by kernel_rfl) (fun K hK => ?_)
  try simp only [List.getElem_toArray, List.getElem_cons_zero, List.getElem_cons_succ]
  go_simp
  refine hK.out _ _ ?_
  clear hK K
  go_wp2
  refine bodyPost_ret (v := .agg #[.int .i64 of, .int .i64 (of + sizZ co), .bool en, .int .i64 de]) (by simp [results, Try.results37, go_sem, d0, d1, d2, d3, m1]) rfl ⟨rfl, ?_⟩
  have hz := DD.out.size
  exact HB1.out.trans ((DD.out.mono (by omega)).trans ((((Below.refl w.heap.size w2).setCell (by simp) _).setCell (by simp) _).setCell (by simp) _ |>.setCell (by simp) _))
theorem i_cont (r b : RuL) (w : World) :
    Calls Try.prog 38 #[.agg #[.int .i64 r.start, .int .i64 r.stop, .bool r.frame, .int .i64 r.depth], .agg #[.int .i64 b.start, .int .i64 b.stop, .bool b.frame, .int .i64 b.depth]] w fun e w' => e = .returned (.bool (rofJ b r)) ∧ Below w.heap.size w w' := by
  obtain ⟨st, sp, fr, de⟩ := r
  obtain ⟨bs, bp, bf, bd⟩ := b
  dsimp only
  have HB : Hid (Below w.heap.size w ((w.alloc (.cells #[.int .i64 st, .int .i64 sp, .bool fr, .int .i64 de] 43)).alloc (.cells #[.int .i64 bs, .int .i64 bp, .bool bf, .int .i64 bd] 43))) := Lib.hid (((Below.refl _ _).alloc (Nat.le_refl _) _).alloc (by simp) _)
  by_cases h1 : st = bp
  · subst h1
    cases fr <;> cases bf
    all_goals
      by_cases h3 : de = bd
      · subst h3
        go_enter Try.func38, Try.ntmps38
        go_wp2
        go_ret
        exact ⟨ret_bRf (by unfold rofJ; simp [*]), HB.out⟩
      · have h4 : ¬ bd = de := fun e => h3 e.symm
        go_enter Try.func38, Try.ntmps38
        go_wp2
        go_ret
        exact ⟨ret_bRf (by unfold rofJ; simp [*]), HB.out⟩
  · have h5 : ¬ bp = st := fun e => h1 e.symm
    go_enter Try.func38, Try.ntmps38
    go_wp2
    go_ret
    exact ⟨ret_bRf (by unfold rofJ; simp [*]), HB.out⟩
set_option maxRecDepth 100000 in
set_option maxHeartbeats 8000000 in
theorem i_rulesOf (a : Option Addr) (cap n : Nat) (X : List VPl) (w : World) (hr : RowP w (.slice a n cap) X) (hn : X.length = n) (hl : n ≤ 1048576) :
    Calls Try.prog 10 #[.slice a n cap] w (RuRow 43 w.heap.size (rofZ (X.map (·.pp))) w) := by
  obtain ⟨i0, hi, hz0, hz1, hz2⟩ := info_parts infoRu
  have HR := Lib.hid hr
  have HN := Lib.hid hn
  have HO0 : Hid (w.ownsRow w.heap.size 43 4 (.slice none 0 0) ([] : List RuL).length (rusV [])) := Lib.hid ⟨rfl, .inl ⟨rfl, rfl⟩⟩
  obtain ⟨ps, hps⟩ : ∃ ps, X.map (·.pp) = ps := ⟨_, rfl⟩
  have HPS := Lib.hid hps
  have HPL : Hid (ps.length = n) := Lib.hid (by rw [← hps]; simpa using hn)
  have BAD := Lib.hid (nearB_bad ps)
  have NXT := Lib.hid (nearB_next ps)
  have RNX := Lib.hid (rofF_next ps)
  rw [hps]
  clear hr hn hps
  go_enter Try.func10, Try.ntmps10
  go_wp2_with fail
  go_loopw [3, 10] (fun v x wr => ∃ (k : Nat) (D : List RuL), k ≤ n ∧ x = .int .i64 (k : Int) ∧ Hid (nearB (ps.take k) = true) ∧ Hid (rofF [] (ps.take k) = D) ∧ D.length ≤ k ∧ wr.ownsRow w.heap.size 43 4 v D.length (rusV D) ∧ Below w.heap.size w wr) (fun _ x _ => n - (RowKit.intOf x).toNat)
  case atStart => exact ⟨0, [], Nat.zero_le _, rfl, Lib.hid (by rw [List.take_zero]; rfl), Lib.hid (by rw [List.take_zero]; rfl), Nat.le_refl _, HO0.out, Below.refl _ _⟩
  case round =>
    obtain ⟨k, D, hk, rfl, HNB, HD, hDk, hown, hbel⟩ := hrel
    obtain ⟨pa, pc, rfl⟩ := slice_shape hown
    obtain ⟨N, hN⟩ : ∃ N, D.length = N := ⟨_, rfl⟩
    have HDN := Lib.hid hN
    rw [hN] at hown hDk ⊢
    clear hN
    have HO := Lib.hid hown
    have HB := Lib.hid hbel
    have hB := hbel.size
    clear hown
    by_cases hlt : k < n
    · have hx1 : k < X.length := by rw [HN.out]; exact hlt
      have hx2 : k < ps.length := by rw [HPL.out]; exact hlt
      obtain ⟨g, xa, xc, rfl, _, _, c0, c1, c2, c3, c4, c5, c6, c7⟩ := (HR.out.below hbel).at k hx1
      have hpk : ps[k] = X[k].pp := by have h := HPS.out; subst h; simp
      have BADk := Lib.hid (BAD.out k hx2)
      have NXTk := Lib.hid (NXT.out k hx2 HNB.out)
      have RNXk := Lib.hid (RNX.out k hx2)
      rw [hpk] at BADk NXTk RNXk
      rw [HD.out] at RNXk
      generalize X[k] = y at *
      obtain ⟨of, ⟨⟨co, ar, li, st, ch, de, en⟩, yv⟩⟩ := y
      dsimp only [VPl.pp] at c0 c1 c2 c3 c4 c5 c6 c7 BADk NXTk RNXk
      generalize ch.length = chl at *
      have k0 : (0 : Int) ≤ (k : Int) := by omega
      have k1 : (k : Int) < (n : Int) := by omega
      have I1 := Lib.hid (fun W => i_isAdR of W)
      have BX := Lib.hid ((Below.refl wr.heap.size wr).alloc (Nat.le_refl _) (.cells #[.int .i64 of, .int .i64 co, .int .i64 ar, .int .i64 li, .bool st, .slice xa chl xc, .int .i64 de, .bool en] 39))
      have QX := Lib.hid (heap_alloc_new wr (.cells #[.int .i64 of, .int .i64 co, .int .i64 ar, .int .i64 li, .bool st, .slice xa chl xc, .int .i64 de, .bool en] 39))
      have tz : (wr.alloc (.cells #[.int .i64 of, .int .i64 co, .int .i64 ar, .int .i64 li, .bool st, .slice xa chl xc, .int .i64 de, .bool en] 39)).heap.size = wr.heap.size + 1 := by simp
      have HBX : Hid (Below w.heap.size w (wr.alloc (.cells #[.int .i64 of, .int .i64 co, .int .i64 ar, .int .i64 li, .bool st, .slice xa chl xc, .int .i64 de, .bool en] 39))) := Lib.hid (HB.out.trans (BX.out.mono hB))
      have HOX := Lib.hid (owns_blks HO.out (fun g hg => BX.out.block g (HO.out.lt g hg).2))
      clear hbel hpk hx1 hx2
      cases hb : (decide (0 ≤ of) && decide (of ≤ 1000000)) with
      | false =>
        have HZ : Hid (rofZ ps = []) := Lib.hid (rofZ_bad ps (BADk.out (by unfold nearO; exact hb)))
        rw [hb] at I1
        clear hb BADk NXTk RNXk
        go_wp2_with fail
        refine (I1.out _).mono ?_
        rintro e w' ⟨rfl, rfl⟩
        go_wp2
        go_ret
        exact ⟨_, rfl, by rw [HZ.out]; exact ⟨rfl, .inl ⟨rfl, rfl⟩⟩, HBX.out⟩
      | true =>
        have hof : 0 ≤ of ∧ of ≤ 1000000 := by simpa using hb
        have hsz := sizZ_in co
        have HNX := Lib.hid (NXTk.out (by unfold nearO; exact hb))
        rw [hb] at I1
        have RO := Lib.hid (fun W => i_ruleOf of co ar li st (.slice xa chl xc) de en W hof.1 hof.2)
        unfold rofR at RNXk
        dsimp only at RNXk
        obtain ⟨sp, hsp⟩ : ∃ s, of + sizZ co = s := ⟨_, rfl⟩
        rw [hsp] at RO RNXk
        have hspb : sp ≤ 1000009 ∧ 0 ≤ sp := by omega
        obtain ⟨sp1, sp0⟩ := hspb
        clear hb BADk NXTk hsp hof hsz
        go_wp2_with fail
        refine (I1.out _).mono ?_
        rintro e w' ⟨rfl, rfl⟩
        have e0 := (blk QX.out).1 0 _ rfl
        go_wp2_with fail
        refine (RO.out _).mono ?_
        rintro e w2 ⟨rfl, b2⟩
        have z2 := b2.size
        rw [tz] at z2
        have HB2 : Hid (Below w.heap.size w w2) := Lib.hid (HBX.out.trans (b2.mono (by rw [tz]; omega)))
        have HO2 := Lib.hid (owns_blks HOX.out (fun g hg => b2.block g (HOX.out.lt g hg).2))
        clear b2 HOX HBX BX QX e0 c0 c1 c2 c3 c4 c5 c6 c7 I1 RO tz
        have BR := Lib.hid ((Below.refl w2.heap.size w2).alloc (Nat.le_refl _) (.cells #[.int .i64 of, .int .i64 sp, .bool en, .int .i64 de] 43))
        have QR := Lib.hid (heap_alloc_new w2 (.cells #[.int .i64 of, .int .i64 sp, .bool en, .int .i64 de] 43))
        have hown2 := HO2.out.alloc (.cells #[.int .i64 of, .int .i64 sp, .bool en, .int .i64 de] 43)
        have HB3 : Hid (Below w.heap.size w (w2.alloc (.cells #[.int .i64 of, .int .i64 sp, .bool en, .int .i64 de] 43))) := Lib.hid (HB2.out.alloc (by omega) _)
        have HL : Hid (∀ r : RuL, (rofS D r).length ≤ D.length + 1) := Lib.hid (rofS_len D)
        rcases List.eq_nil_or_concat D with hD | ⟨P, b, hD⟩
        · subst hD
          obtain rfl : N = 0 := HDN.out.symm
          have RN' : Hid (rofF [] (ps.take (k + 1)) = [⟨of, sp, en, de⟩]) := Lib.hid (by rw [RNXk.out, rofS_nil])
          have h63 : 0 + 1 ≤ maxLen := by unfold maxLen; simp
          have hby : (0 + 1) * 32 ≤ 140737488355328 := by simp
          clear RNXk
          go_wp2_with fail
          go_quiet (fail)
          go_wp2_with (at_builtin; refine wpList_append_own _ rfl _ _ 31 rfl w.heap.size 43 i0 _ 4 32 Try.underlying31 hi hz0 hz1 hz2 rfl (by decide) _ _ _ rfl (hown2.alloc _) ⟨w2.heap.size + 1, 0, none⟩ 1 1 [.int .i64 of, .int .i64 sp, .bool en, .int .i64 de] rfl rfl ?c1 ?c2 h63 hby ?c5 ?_)
          case c1 =>
            have hb := heap_alloc_new (w2.alloc (.cells #[.int .i64 of, .int .i64 sp, .bool en, .int .i64 de] 43)) (.cells #[.int .i64 of, .int .i64 sp, .bool en, .int .i64 de] 43)
            have hb' : (World.alloc (w2.alloc (.cells #[.int .i64 of, .int .i64 sp, .bool en, .int .i64 de] 43)) (.cells #[.int .i64 of, .int .i64 sp, .bool en, .int .i64 de] 43)).heap[w2.heap.size + 1]? = some (.cells #[.int .i64 of, .int .i64 sp, .bool en, .int .i64 de] 43 (0, 0)) := by simpa using hb
            exact World.news_of_block hb'
          case c2 => intro u hu; simp at hu; rcases hu with rfl | rfl | rfl | rfl <;> rfl
          case c5 => simp; omega
          intro v' w3 hown3 hgrow _
          have HO4 : Hid (w3.ownsRow w.heap.size 43 4 v' (([] : List RuL) ++ [(⟨of, sp, en, de⟩ : RuL)]).length (rusV (([] : List RuL) ++ [(⟨of, sp, en, de⟩ : RuL)]))) := Lib.hid (by rw [rusV_append, List.length_append]; exact hown3)
          have HB4 : Hid (Below w.heap.size w w3) := Lib.hid (below_appR (wr := (w2.alloc (.cells #[.int .i64 of, .int .i64 sp, .bool en, .int .i64 de] 43)).drewN _) hown2 (below_drewN HB3.out _) (by simp [World.drewN]; omega) hgrow)
          clear hown2 hown3 hgrow
          go_wp2
          go_roundw
          case rel => exact ⟨k + 1, [⟨of, sp, en, de⟩], by omega, by go_num, HNX, RN', by simp, HO4.out, HB4.out⟩
          case measure => simp [RowKit.intOf]; omega
        · rw [List.concat_eq_append] at hD
          subst hD
          have hM : P.length + 1 = N := by have h := HDN.out; simpa using h
          obtain ⟨M, hM'⟩ : ∃ M, P.length = M := ⟨_, rfl⟩
          rw [hM'] at hM
          have HMM := Lib.hid hM'
          subst hM
          clear hM'
          obtain ⟨g2, hg2⟩ : ∃ g2, pa = some ⟨g2, 0, none⟩ := by
            rcases hown2.2 with ⟨_, h0⟩ | ⟨g2, cap2, cur2, e, _⟩
            · omega
            · injection e with e; exact ⟨g2, e⟩
          subst hg2
          have LC : Hid (∀ i, i < 4 → (w2.alloc (.cells #[.int .i64 of, .int .i64 sp, .bool en, .int .i64 de] 43)).cell? ⟨g2, M * 4 + i, none⟩ = (ruV b)[i]?) := Lib.hid (fun i hi => by
            rw [hown2.cellAt (M * 4 + i) (by have := rusV_length (P ++ [b]); have := HMM.out; simp at *; omega), ← HMM.out]
            exact rusV_last P b i hi)
          have CT := Lib.hid (fun W => i_cont ⟨of, sp, en, de⟩ b W)
          have STP := Lib.hid (rusV_stop P b sp)
          rw [HMM.out] at STP
          obtain ⟨bs, bp, bf, bd⟩ := b
          dsimp only at CT STP RNXk
          have q0 : (w2.alloc (.cells #[.int .i64 of, .int .i64 sp, .bool en, .int .i64 de] 43)).cell? ⟨g2, M * 4, none⟩ = some (.int .i64 bs) := LC.out 0 (by omega)
          have q1 : (w2.alloc (.cells #[.int .i64 of, .int .i64 sp, .bool en, .int .i64 de] 43)).cell? ⟨g2, M * 4 + 1, none⟩ = some (.int .i64 bp) := LC.out 1 (by omega)
          have q2 : (w2.alloc (.cells #[.int .i64 of, .int .i64 sp, .bool en, .int .i64 de] 43)).cell? ⟨g2, M * 4 + 2, none⟩ = some (.bool bf) := LC.out 2 (by omega)
          have q3 : (w2.alloc (.cells #[.int .i64 of, .int .i64 sp, .bool en, .int .i64 de] 43)).cell? ⟨g2, M * 4 + 3, none⟩ = some (.int .i64 bd) := LC.out 3 (by omega)
          have m0 : (0 : Int) ≤ (M : Int) := by omega
          have m1 : (M : Int) < (M : Int) + 1 := by omega
          have hpl : (P ++ [(⟨bs, bp, bf, bd⟩ : RuL)]).length = M + 1 := by simp [HMM.out]
          have HPL2 := Lib.hid hpl
          clear hpl
          have hgl : w.heap.size ≤ g2 ∧ g2 < (w2.alloc (.cells #[.int .i64 of, .int .i64 sp, .bool en, .int .i64 de] 43)).heap.size := hown2.lt g2 rfl
          have KK : Hid (∀ W, Below (w2.alloc (.cells #[.int .i64 of, .int .i64 sp, .bool en, .int .i64 de] 43)).heap.size (w2.alloc (.cells #[.int .i64 of, .int .i64 sp, .bool en, .int .i64 de] 43)) W → (W.cell? ⟨w2.heap.size, 0, none⟩ = some (.int .i64 of) ∧ W.cell? ⟨w2.heap.size, 1, none⟩ = some (.int .i64 sp) ∧ W.cell? ⟨w2.heap.size, 2, none⟩ = some (.bool en) ∧ W.cell? ⟨w2.heap.size, 3, none⟩ = some (.int .i64 de)) ∧ (W.cell? ⟨g2, M * 4, none⟩ = some (.int .i64 bs) ∧ W.cell? ⟨g2, M * 4 + 1, none⟩ = some (.int .i64 bp) ∧ W.cell? ⟨g2, M * 4 + 2, none⟩ = some (.bool bf) ∧ W.cell? ⟨g2, M * 4 + 3, none⟩ = some (.int .i64 bd))) := Lib.hid (fun W hb => by
            have hq := (hb.block w2.heap.size (by simp)).trans QR.out
            have hc : ∀ i, W.cell? ⟨g2, i, none⟩ = (w2.alloc (.cells #[.int .i64 of, .int .i64 sp, .bool en, .int .i64 de] 43)).cell? ⟨g2, i, none⟩ := fun i => hb.cell (p := ⟨g2, i, none⟩) hgl.2
            exact ⟨⟨(blk hq).1 0 _ rfl, (blk hq).1 1 _ rfl, (blk hq).1 2 _ rfl, (blk hq).1 3 _ rfl⟩, ⟨(hc _).trans q0, (hc _).trans q1, (hc _).trans q2, (hc _).trans q3⟩⟩)
          have BD : Hid (Below (w2.alloc (.cells #[.int .i64 of, .int .i64 sp, .bool en, .int .i64 de] 43)).heap.size (w2.alloc (.cells #[.int .i64 of, .int .i64 sp, .bool en, .int .i64 de] 43)) (w2.alloc (.cells #[.int .i64 of, .int .i64 sp, .bool en, .int .i64 de] 43)).drew) := Lib.hid (Below.refl _ _).drew
          obtain ⟨⟨n0, n1, n2, n3⟩, _⟩ := KK.out _ (Below.refl _ _)
          cases hj : rofJ ⟨bs, bp, bf, bd⟩ ⟨of, sp, en, de⟩ with
          | true =>
            have RN' : Hid (rofF [] (ps.take (k + 1)) = P ++ [⟨bs, sp, bf, bd⟩]) := Lib.hid (by rw [RNXk.out, rofS_join _ _ _ hj])
            rw [hj] at CT
            clear hj RNXk
            go_wp2_with fail
            go_region_held3 (fun w' => (w'.cell? ⟨w2.heap.size, 0, none⟩ = some (.int .i64 of) ∧ w'.cell? ⟨w2.heap.size, 1, none⟩ = some (.int .i64 sp) ∧ w'.cell? ⟨w2.heap.size, 2, none⟩ = some (.bool en) ∧ w'.cell? ⟨w2.heap.size, 3, none⟩ = some (.int .i64 de)) ∧ (w'.cell? ⟨g2, M * 4, none⟩ = some (.int .i64 bs) ∧ w'.cell? ⟨g2, M * 4 + 1, none⟩ = some (.int .i64 bp) ∧ w'.cell? ⟨g2, M * 4 + 2, none⟩ = some (.bool bf) ∧ w'.cell? ⟨g2, M * 4 + 3, none⟩ = some (.int .i64 bd))) (first | with_reducible exact KK.out _ BD.out | with_reducible exact KK.out _ HB5.out)
              (first | (go_at_call 38; (with_reducible refine (CT.out _).mono ?_); rintro e w5 ⟨rfl, b5⟩; have HB5 : Hid (Below (w2.alloc (.cells #[.int .i64 of, .int .i64 sp, .bool en, .int .i64 de] 43)).heap.size (w2.alloc (.cells #[.int .i64 of, .int .i64 sp, .bool en, .int .i64 de] 43)) w5) := Lib.hid (BD.out.trans b5); clear b5))
            all_goals
              have HB5' : Hid (Below w.heap.size w w5) := Lib.hid (HB3.out.trans (HB5.out.mono HB3.out.size))
              have HO5 := Lib.hid (owns_blks hown2 (fun g hg => HB5.out.block g (hown2.lt g hg).2))
              obtain ⟨⟨x0, x1, x2, x3⟩, ⟨y0, y1, y2, y3⟩⟩ := KK.out _ HB5.out
              have fr := HO5.out.frozenAt
              have S1 := HO5.out.stored (M * 4 + 1) (.int .i64 sp)
              have HO6 := Lib.hid (STP.out ▸ S1.1)
              have HB6 := Lib.hid (HB5'.out.grown S1.2 (by exact HB5'.out.size) (fun j hj => by injection hj with e; omega))
              clear S1 n0 n1 n2 n3 q0 q1 q2 q3 KK
              go_wp2
              go_roundw
              case rel => exact ⟨k + 1, P ++ [⟨bs, sp, bf, bd⟩], by omega, by go_num, HNX, RN', by simp; have := HMM.out; omega, by rw [show (P ++ [(⟨bs, sp, bf, bd⟩ : RuL)]).length = M + 1 from by simp [HMM.out]]; exact HO6.out, HB6.out⟩
              case measure => simp [RowKit.intOf]; omega
          | false =>
            have RN' : Hid (rofF [] (ps.take (k + 1)) = P ++ [⟨bs, bp, bf, bd⟩] ++ [⟨of, sp, en, de⟩]) := Lib.hid (by rw [RNXk.out, rofS_new _ _ _ hj])
            rw [hj] at CT
            clear hj RNXk
            go_wp2_with fail
            go_region_held3 (fun w' => (w'.cell? ⟨w2.heap.size, 0, none⟩ = some (.int .i64 of) ∧ w'.cell? ⟨w2.heap.size, 1, none⟩ = some (.int .i64 sp) ∧ w'.cell? ⟨w2.heap.size, 2, none⟩ = some (.bool en) ∧ w'.cell? ⟨w2.heap.size, 3, none⟩ = some (.int .i64 de)) ∧ (w'.cell? ⟨g2, M * 4, none⟩ = some (.int .i64 bs) ∧ w'.cell? ⟨g2, M * 4 + 1, none⟩ = some (.int .i64 bp) ∧ w'.cell? ⟨g2, M * 4 + 2, none⟩ = some (.bool bf) ∧ w'.cell? ⟨g2, M * 4 + 3, none⟩ = some (.int .i64 bd))) (first | with_reducible exact KK.out _ BD.out | with_reducible exact KK.out _ HB5.out)
              (first | (go_at_call 38; (with_reducible refine (CT.out _).mono ?_); rintro e w5 ⟨rfl, b5⟩; have HB5 : Hid (Below (w2.alloc (.cells #[.int .i64 of, .int .i64 sp, .bool en, .int .i64 de] 43)).heap.size (w2.alloc (.cells #[.int .i64 of, .int .i64 sp, .bool en, .int .i64 de] 43)) w5) := Lib.hid (BD.out.trans b5); clear b5))
            all_goals
              have HB5' : Hid (Below w.heap.size w w5) := Lib.hid (HB3.out.trans (HB5.out.mono HB3.out.size))
              have z5 := HB5'.out.size
              have hown5 := owns_blks hown2 (fun g hg => HB5.out.block g (hown2.lt g hg).2)
              obtain ⟨⟨x0, x1, x2, x3⟩, ⟨y0, y1, y2, y3⟩⟩ := KK.out _ HB5.out
              have h63 : M + 1 + 1 ≤ maxLen := by unfold maxLen; omega
              have hby : (M + 1 + 1) * 32 ≤ 140737488355328 := by omega
              clear n0 n1 n2 n3 q0 q1 q2 q3 KK
              go_wp2_with (at_builtin; refine wpList_append_own _ rfl _ _ 31 rfl w.heap.size 43 i0 _ 4 32 Try.underlying31 hi hz0 hz1 hz2 rfl (by decide) _ _ _ rfl (hown5.alloc _) ⟨w5.heap.size, 0, none⟩ 1 1 [.int .i64 of, .int .i64 sp, .bool en, .int .i64 de] rfl rfl ?c1 ?c2 h63 hby ?c5 ?_)
              case c1 =>
                have hb := heap_alloc_new w5 (.cells #[.int .i64 of, .int .i64 sp, .bool en, .int .i64 de] 43)
                have hb' : (w5.alloc (.cells #[.int .i64 of, .int .i64 sp, .bool en, .int .i64 de] 43)).heap[w5.heap.size]? = some (.cells #[.int .i64 of, .int .i64 sp, .bool en, .int .i64 de] 43 (0, 0)) := by simpa using hb
                exact World.news_of_block hb'
              case c2 => intro u hu; simp at hu; rcases hu with rfl | rfl | rfl | rfl <;> rfl
              case c5 => simp; omega
              intro v' w3 hown3 hgrow _
              have HO4 : Hid (w3.ownsRow w.heap.size 43 4 v' (P ++ [(⟨bs, bp, bf, bd⟩ : RuL)] ++ [(⟨of, sp, en, de⟩ : RuL)]).length (rusV (P ++ [(⟨bs, bp, bf, bd⟩ : RuL)] ++ [(⟨of, sp, en, de⟩ : RuL)]))) := Lib.hid (by rw [rusV_append, List.length_append, HPL2.out]; exact hown3)
              have HB4 : Hid (Below w.heap.size w w3) := Lib.hid (below_appR hown5 HB5'.out (by exact HB5'.out.size) hgrow)
              clear hown5 hown2 hown3 hgrow
              go_wp2
              go_roundw
              case rel => exact ⟨k + 1, P ++ [⟨bs, bp, bf, bd⟩] ++ [⟨of, sp, en, de⟩], by omega, by go_num, HNX, RN', by simp; have := HMM.out; omega, HO4.out, HB4.out⟩
              case measure => simp [RowKit.intOf]; omega
    · have hkk : k = n := by omega
      subst hkk
      have HZ : Hid (rofZ ps = D) := Lib.hid (by have h1 := HNB.out; have h2 := HD.out; rw [List.take_of_length_le (by rw [HPL.out]; exact Nat.le_refl _)] at h1 h2; rw [rofZ_all ps h1]; exact h2)
      go_wp2
      go_ret
      exact ⟨_, rfl, by rw [HZ.out, HDN.out]; exact HO.out, HB.out⟩
end Go.Proofs.Ytakgjlpgcepnkaa
