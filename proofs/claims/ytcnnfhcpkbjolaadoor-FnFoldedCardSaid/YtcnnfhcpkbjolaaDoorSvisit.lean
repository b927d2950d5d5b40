/- The model's visit. -/
import Derived.Test.YtcnnfhcpkbjolaaDoorPlainR
import Derived.Test.YtcnnfhcpkbjolaaDoorHeldEnd
import Derived.Test.YtcnnfhcpkbjolaaDoorElB
import Derived.Test.YtcnnfhcpkbjolaaDoorLocB
import Derived.BigQuiet
import Derived.Outline
namespace Go.Proofs.YtcnnfhcpkbjolaaDoor
open Go.RowKit Go.Lib

theorem neS : 3 ≠ 58 ∧ 28 ≠ 58 ∧ 3 ≠ 28 := by decide
theorem infoIS : (Tryd.prog.info? 3).map (fun i => (i.zero, i.size, i.bytes)) = some (some (.int .i64 0), 1, 8) := by kernel_rfl
theorem infoII : (Tryd.prog.info? 28).map (fun i => (i.zero, i.size, i.bytes)) = some (some (.slice none 0 0), 1, 24) := by kernel_rfl
abbrev SAt' (rb : Nat) (B : Nat) (w : World) (pv : Value) (lim : Int) (s : RunS) (c : List Int) (code : Int) (ov vv cv : Value) (X : List IvL) : Prop := SAt 58 3 28 B rb w pv lim s c code ov vv cv X

theorem own_newsI {B T n : Nat} {w : World} {v : Value} {l : List Int} (h : w.ownsRow B T 1 v n (intV l)) : (v = .slice none 0 0 ∧ l = []) ∨ ∃ g c, v = .slice (some ⟨g, 0, none⟩) n c ∧ (∀ j u, (intV l)[j]? = some u → w.cell? ((⟨g, 0, none⟩ : Addr).add j) = some u) := by
  have hn := h.1
  rw [intV_length] at hn
  rcases h.2 with ⟨rfl, h0⟩ | ⟨g, cap, cur, rfl, _⟩
  · exact .inl ⟨rfl, List.length_eq_zero_iff.1 (by omega)⟩
  · exact .inr ⟨g, cap, rfl, h.cells rfl⟩
theorem intV_all (l : List Int) : ∀ u ∈ intV l, u.oneCell' = true := by
  intro u hu
  obtain ⟨x, _, rfl⟩ := List.mem_map.1 hu
  rfl

set_option maxRecDepth 100000 in
set_option maxHeartbeats 1000000 in
theorem s_visit_full (B rb : Nat) (pv : Value) (lim : Int) (s : RunS) (c : List Int) (ov vv cv : Value) (X : List IvL) (k : Int) (w : World) (h : SAt 58 3 28 B rb w pv lim s c 0 ov vv cv X) (hl : (s.vis.length : Int) = lim) :
    Calls Tryd.prog 67 #[.pointer (some ⟨rb, 0, none⟩), .int .i64 k] w fun e w' => e = .returned (.bool false) ∧ SAt 58 3 28 B rb w' pv lim s c 1 ov vv cv X ∧ Step rb (RM ov vv cv X) (RM ov vv cv X) w w' := by
  have HH := Lib.hid h
  have hlen := h.R.len
  obtain ⟨va, vc, rfl⟩ := owns_shape h.R.vis
  obtain ⟨cc, cf, clt⟩ := blk h.row
  have e1 : w.cell? ⟨rb, 1, none⟩ = some (.int .i64 lim) := cc 1 _ rfl
  have e3 : w.cell? ⟨rb, 3, none⟩ = some (.slice va X.length vc) := cc 3 _ rfl
  have e5 : w.cell? ⟨rb, 5, none⟩ = some (.int .i64 0) := cc 5 _ rfl
  have f5 : w.frozen? ⟨rb, 5, none⟩ = false := cf 5
  have ht : ((X.length : Int) == lim) = true := by rw [hlen, hl]; simp
  have HB : Hid (∀ q, Below w.heap.size w (w.drewN q)) := Lib.hid (fun q => below_drewN (Below.refl _ _) q)
  clear cc cf h hl hlen
  go_enter Tryd.func67, Tryd.ntmps67
  go_wp2_with fail
  go_quiet (fail)
  go_wp2
  go_ret
  have HD := HB.out nq
  exact ⟨rfl, (HH.out.below HD).coded neS.1 neS.2.1 1, (Step.of_below HD).trans (Step.of_set (fun v hv g hg => .inl ⟨v, hv, hg⟩))⟩

/-- A visit is told. -/
def Told (B rb : Nat) (pv : Value) (lim : Int) (s : RunS) (c : List Int) (ov vv cv : Value) (X : List IvL) (k : Int) (w : World) (e : Ending) (w' : World) : Prop :=
  e = .returned (.bool true) ∧ ∃ vv' x, SAt 58 3 28 B rb w' pv lim ⟨s.out, s.vis ++ [c ++ [k]]⟩ c 0 ov vv' cv (X ++ [x]) ∧ Step rb (RM ov vv cv X) (RM ov vv' cv (X ++ [x])) w w'
set_option maxRecDepth 100000 in
set_option maxHeartbeats 4000000 in
theorem s_visit_on (B rb : Nat) (pv : Value) (lim : Int) (s : RunS) (c : List Int) (ov vv cv : Value) (X : List IvL) (k : Int) (w : World) (h : SAt 58 3 28 B rb w pv lim s c 0 ov vv cv X) (hl : (s.vis.length : Int) ≠ lim) (hb : s.vis.length ≤ 2000) (hc : c.length ≤ 6) :
    Calls Tryd.prog 67 #[.pointer (some ⟨rb, 0, none⟩), .int .i64 k] w (Told B rb pv lim s c ov vv cv X k w) := by
  have HH := Lib.hid h
  have hlen := h.R.len
  obtain ⟨i0, hi, hz0, hz1, hz2⟩ := info_parts infoIS
  obtain ⟨j0, hj, hy0, hy1, hy2⟩ := info_parts infoII
  obtain ⟨va, vc, rfl⟩ := owns_shape h.R.vis
  obtain ⟨cc, cf, clt⟩ := blk h.row
  have e1 : w.cell? ⟨rb, 1, none⟩ = some (.int .i64 lim) := cc 1 _ rfl
  have e3 : w.cell? ⟨rb, 3, none⟩ = some (.slice va X.length vc) := cc 3 _ rfl
  have ht : ((X.length : Int) == lim) = false := by rw [hlen]; simpa using hl
  have HB : Hid (∀ q, Below w.heap.size w (w.drewN q)) := Lib.hid (fun q => below_drewN (Below.refl _ _) q)
  have HLEN : Hid (X.length = s.vis.length) := Lib.hid hlen
  have hXl : X.length ≤ 2000 := by omega
  clear cc cf h hl hlen
  go_enter Tryd.func67, Tryd.ntmps67
  go_wp2_with fail
  go_quiet (fail)
  go_wp2_with fail
  obtain ⟨wb, hwb⟩ : ∃ wb, w.drewN nq = wb := ⟨_, rfl⟩
  have HD : Hid (Below w.heap.size w wb) := Lib.hid (hwb ▸ HB.out nq)
  rw [hwb]
  have HS : Hid (SAt 58 3 28 B rb wb pv lim s c 0 ov (.slice va X.length vc) cv X) := Lib.hid (HH.out.below HD.out)
  clear hwb e1 e3 ht
  have HAP : Hid (∀ (W : World) (b : Nat), W.ownsRow wb.heap.size 3 1 (.slice (some ⟨b, 0, none⟩) 0 0) 0 [] → Below wb.heap.size wb W → ∃ v' W', (Builtin.append_ #[28, 28] 28 #[.slice (some ⟨b, 0, none⟩) 0 0, cv]).run Tryd.prog W = .ok v' W' ∧ W'.ownsRow wb.heap.size 3 1 v' c.length (intV c) ∧ W.grownBy W' (some b)) := Lib.hid (fun W b hO hbl => by
    have hcal := owns_below HS.out.calls hbl
    rcases own_newsI hcal with ⟨rfl, rfl⟩ | ⟨gc, ca, rfl, hn⟩
    · exact ⟨_, W, run_append_owned_none (P := Tryd.prog) W wb.heap.size 28 28 3 i0 1 Tryd.underlying28 hi _ 0 _ hO, hO, World.grownBy.refl _ _⟩
    · obtain ⟨v', w', hr, h2, h3, _⟩ := run_append_own (P := Tryd.prog) W wb.heap.size 28 28 3 i0 (.int .i64 0) 1 8 Tryd.underlying28 hi hz0 hz1 hz2 rfl (by decide) _ 0 [] hO ⟨gc, 0, none⟩ c.length ca (intV c) (by rw [intV_length]; omega) hn (intV_all c) (by unfold maxLen; omega) (by omega) hbl.size
      exact ⟨v', w', hr, by simpa using h2, h3⟩)
  have KEEP : Hid (∀ W, Below wb.heap.size wb W → (W.cell? ⟨rb, 3, none⟩ = some (.slice va X.length vc) ∧ W.cell? ⟨rb, 6, none⟩ = some cv)) := Lib.hid (fun W hb => by have hc := (blk (HS.out.below hb).row).1; exact ⟨hc 3 _ rfl, hc 6 _ rfl⟩)
  refine E_start (S := fun w' => w'.cell? ⟨rb, 3, none⟩ = some (.slice va X.length vc) ∧ w'.cell? ⟨rb, 6, none⟩ = some cv) 20 (by kernel_rfl) (KEEP.out _ (Below.refl wb.heap.size wb).drew) (fun hHeld => ?_)
  refine E_take (i := 0) (oi := _) (v := ?_) rfl (by kernel_rfl) (fun _ _ _ h => h) ?_ (by assumption) ?_
  rotate_left 1
  · first | (refine Or.inl ⟨by rfl, ?_⟩; intro w hSw; (try dsimp only at hSw); (try simp only [List.getElem_toArray, List.getElem_cons_zero, List.getElem_cons_succ]); go_simp; done) | (refine Or.inl ⟨by rfl, ?_⟩; intro w hSw; (try dsimp only at hSw); (try simp only [List.getElem_toArray, List.getElem_cons_zero, List.getElem_cons_succ]); go_simp; with_reducible rfl)
  try simp only [Act.put, List.setIfInBounds_toArray, List.set_cons_zero, List.set_cons_succ, List.getElem_toArray, List.getElem_cons_zero, List.getElem_cons_succ]
  refine E_take (i := 1) (oi := _) (v := ?_) rfl (by kernel_rfl) (fun _ _ _ h => h) ?_ (by assumption) ?_
  rotate_left 1
  · first | (refine Or.inl ⟨by rfl, ?_⟩; intro w hSw; (try dsimp only at hSw); (try simp only [List.getElem_toArray, List.getElem_cons_zero, List.getElem_cons_succ]); go_simp; done) | (refine Or.inl ⟨by rfl, ?_⟩; intro w hSw; (try dsimp only at hSw); (try simp only [List.getElem_toArray, List.getElem_cons_zero, List.getElem_cons_succ]); go_simp; with_reducible rfl)
  try simp only [Act.put, List.setIfInBounds_toArray, List.set_cons_zero, List.set_cons_succ, List.getElem_toArray, List.getElem_cons_zero, List.getElem_cons_succ]
  refine E_take (i := 2) (oi := _) (v := ?_) rfl (by kernel_rfl) (fun _ _ _ h => h) ?_ (by assumption) ?_
  rotate_left 1
  · first | (refine Or.inl ⟨by rfl, ?_⟩; intro w hSw; (try dsimp only at hSw); (try simp only [List.getElem_toArray, List.getElem_cons_zero, List.getElem_cons_succ]); go_simp; done) | (refine Or.inl ⟨by rfl, ?_⟩; intro w hSw; (try dsimp only at hSw); (try simp only [List.getElem_toArray, List.getElem_cons_zero, List.getElem_cons_succ]); go_simp; with_reducible rfl)
  try simp only [Act.put, List.setIfInBounds_toArray, List.set_cons_zero, List.set_cons_succ, List.getElem_toArray, List.getElem_cons_zero, List.getElem_cons_succ]
  refine E_take (i := 3) (oi := _) (v := ?_) rfl (by kernel_rfl) (fun _ _ _ h => h) ?_ (by assumption) ?_
  rotate_left 1
  · first | (refine Or.inl ⟨by rfl, ?_⟩; intro w hSw; (try dsimp only at hSw); (try simp only [List.getElem_toArray, List.getElem_cons_zero, List.getElem_cons_succ]); go_simp; done) | (refine Or.inl ⟨by rfl, ?_⟩; intro w hSw; (try dsimp only at hSw); (try simp only [List.getElem_toArray, List.getElem_cons_zero, List.getElem_cons_succ]); go_simp; with_reducible rfl)
  try simp only [Act.put, List.setIfInBounds_toArray, List.set_cons_zero, List.set_cons_succ, List.getElem_toArray, List.getElem_cons_zero, List.getElem_cons_succ]
  refine E_take (i := 4) (oi := _) (v := ?_) rfl (by kernel_rfl) (fun _ _ _ h => h) ?_ (by assumption) ?_
  rotate_left 1
  · first | (refine Or.inl ⟨by rfl, ?_⟩; intro w hSw; (try dsimp only at hSw); (try simp only [List.getElem_toArray, List.getElem_cons_zero, List.getElem_cons_succ]); go_simp; done) | (refine Or.inl ⟨by rfl, ?_⟩; intro w hSw; (try dsimp only at hSw); (try simp only [List.getElem_toArray, List.getElem_cons_zero, List.getElem_cons_succ]); go_simp; with_reducible rfl)
  try simp only [Act.put, List.setIfInBounds_toArray, List.set_cons_zero, List.set_cons_succ, List.getElem_toArray, List.getElem_cons_zero, List.getElem_cons_succ]
  refine E_take (i := 5) (oi := _) (v := ?_) rfl (by kernel_rfl) (fun _ _ _ h => h) ?_ (by assumption) ?_
  rotate_left 1
  · first | (refine Or.inl ⟨by rfl, ?_⟩; intro w hSw; (try dsimp only at hSw); (try simp only [List.getElem_toArray, List.getElem_cons_zero, List.getElem_cons_succ]); go_simp; done) | (refine Or.inl ⟨by rfl, ?_⟩; intro w hSw; (try dsimp only at hSw); (try simp only [List.getElem_toArray, List.getElem_cons_zero, List.getElem_cons_succ]); go_simp; with_reducible rfl)
  try simp only [Act.put, List.setIfInBounds_toArray, List.set_cons_zero, List.set_cons_succ, List.getElem_toArray, List.getElem_cons_zero, List.getElem_cons_succ]
  refine E_take (i := 7) (oi := _) (v := ?_) rfl (by kernel_rfl) (fun _ _ _ h => h) ?_ (by assumption) ?_
  rotate_left 1
  · first | (refine Or.inl ⟨by rfl, ?_⟩; intro w hSw; (try dsimp only at hSw); (try simp only [List.getElem_toArray, List.getElem_cons_zero, List.getElem_cons_succ]); go_simp; done) | (refine Or.inl ⟨by rfl, ?_⟩; intro w hSw; (try dsimp only at hSw); (try simp only [List.getElem_toArray, List.getElem_cons_zero, List.getElem_cons_succ]); go_simp; with_reducible rfl)
  try simp only [Act.put, List.setIfInBounds_toArray, List.set_cons_zero, List.set_cons_succ, List.getElem_toArray, List.getElem_cons_zero, List.getElem_cons_succ]
  refine E_take (i := 8) (oi := _) (v := ?_) rfl (by kernel_rfl) (fun _ _ _ h => h) ?_ (by assumption) ?_
  rotate_left 1
  · first | (refine Or.inl ⟨by rfl, ?_⟩; intro w hSw; (try dsimp only at hSw); (try simp only [List.getElem_toArray, List.getElem_cons_zero, List.getElem_cons_succ]); go_simp; done) | (refine Or.inl ⟨by rfl, ?_⟩; intro w hSw; (try dsimp only at hSw); (try simp only [List.getElem_toArray, List.getElem_cons_zero, List.getElem_cons_succ]); go_simp; with_reducible rfl)
  try simp only [Act.put, List.setIfInBounds_toArray, List.set_cons_zero, List.set_cons_succ, List.getElem_toArray, List.getElem_cons_zero, List.getElem_cons_succ]
  refine E_take (i := 9) (oi := _) (v := ?_) rfl (by kernel_rfl) (fun _ _ _ h => h) ?_ (by assumption) ?_
  rotate_left 1
  · first | (refine Or.inl ⟨by rfl, ?_⟩; intro w hSw; (try dsimp only at hSw); (try simp only [List.getElem_toArray, List.getElem_cons_zero, List.getElem_cons_succ]); go_simp; done) | (refine Or.inl ⟨by rfl, ?_⟩; intro w hSw; (try dsimp only at hSw); (try simp only [List.getElem_toArray, List.getElem_cons_zero, List.getElem_cons_succ]); go_simp; with_reducible rfl)
  try simp only [Act.put, List.setIfInBounds_toArray, List.set_cons_zero, List.set_cons_succ, List.getElem_toArray, List.getElem_cons_zero, List.getElem_cons_succ]
  refine E_take (i := 10) (oi := _) (v := ?_) rfl (by kernel_rfl) (fun _ _ _ h => h) ?_ (by assumption) ?_
  rotate_left 1
  · first | (refine Or.inl ⟨by rfl, ?_⟩; intro w hSw; (try dsimp only at hSw); (try simp only [List.getElem_toArray, List.getElem_cons_zero, List.getElem_cons_succ]); go_simp; done) | (refine Or.inl ⟨by rfl, ?_⟩; intro w hSw; (try dsimp only at hSw); (try simp only [List.getElem_toArray, List.getElem_cons_zero, List.getElem_cons_succ]); go_simp; with_reducible rfl)
  try simp only [Act.put, List.setIfInBounds_toArray, List.set_cons_zero, List.set_cons_succ, List.getElem_toArray, List.getElem_cons_zero, List.getElem_cons_succ]
  refine E_take (i := 12) (oi := _) (v := ?_) rfl (by kernel_rfl) (fun _ _ _ h => h) ?_ (by assumption) ?_
  rotate_left 1
  · first | (refine Or.inl ⟨by rfl, ?_⟩; intro w hSw; (try dsimp only at hSw); (try simp only [List.getElem_toArray, List.getElem_cons_zero, List.getElem_cons_succ]); go_simp; done) | (refine Or.inl ⟨by rfl, ?_⟩; intro w hSw; (try dsimp only at hSw); (try simp only [List.getElem_toArray, List.getElem_cons_zero, List.getElem_cons_succ]); go_simp; with_reducible rfl)
  try simp only [Act.put, List.setIfInBounds_toArray, List.set_cons_zero, List.set_cons_succ, List.getElem_toArray, List.getElem_cons_zero, List.getElem_cons_succ]
  refine E_ready (rs := [6, 13]) (by kernel_rfl) (by decide) ?_
  refine AllE.cons (o := _) rfl (fun K hK => ?_) (AllE.cons (o := _) rfl (fun K hK => ?_) AllE.nil)
  ·
    try simp only [List.getElem_toArray, List.getElem_cons_zero, List.getElem_cons_succ]
    go_simp
    refine hK.out _ _ (KEEP.out _ ((Below.refl _ _).alloc (Nat.le_refl _) (.cells #[] 3)).drew) (fun hHeld => ?_)
    clear hK K
    try simp only [Act.put, List.setIfInBounds_toArray, List.set_cons_zero, List.set_cons_succ, List.getElem_toArray, List.getElem_cons_zero, List.getElem_cons_succ]
    refine E_ready (rs := [11, 13]) (by kernel_rfl) (by decide) ?_
    refine AllE.cons (o := _) rfl (fun K hK => ?_) (AllE.cons (o := _) rfl (fun K hK => ?_) AllE.nil)
    ·
      have HBW : Hid (Below wb.heap.size wb ((wb.alloc (.cells #[] 3)).drew)) := Lib.hid (((Below.refl _ _).alloc (Nat.le_refl _) _).drew)
      obtain ⟨v31, w1, hr1, O31, G31⟩ := HAP.out ((wb.alloc (.cells #[] 3)).drew) (wb.heap.size) ((World.ownsRow_lit (e := 3) (size := 1) (base := wb.heap.size) wb #[] 0 (Nat.le_refl _) (by decide) rfl).drew) HBW.out
      have HB1 : Hid (Below wb.heap.size wb w1) := Lib.hid (HBW.out.grown G31 HBW.out.size (fun q hq => by injection hq with e; omega))
      refine step_append_run rfl (.tmp 26) (.tmp 30) 28 rfl _ _ _ rfl rfl hr1 ?_
      refine hK.out _ _ (KEEP.out _ HB1.out) (fun hHeld => ?_)
      clear hK K
      try simp only [Act.put, List.setIfInBounds_toArray, List.set_cons_zero, List.set_cons_succ, List.getElem_toArray, List.getElem_cons_zero, List.getElem_cons_succ]
      refine E_ready (rs := [13]) (by kernel_rfl) (by decide) ?_
      refine AllE.cons (o := _) rfl (fun K hK => ?_) AllE.nil
      have z1 := HB1.out.size
      try simp only [List.getElem_toArray, List.getElem_cons_zero, List.getElem_cons_succ]
      go_simp
      refine hK.out _ _ (KEEP.out _ (HB1.out.alloc z1 (.cells #[.int .i64 k] 3))) (fun hHeld => ?_)
      clear hK K
      try simp only [Act.put, List.setIfInBounds_toArray, List.set_cons_zero, List.set_cons_succ, List.getElem_toArray, List.getElem_cons_zero, List.getElem_cons_succ]
      refine E_ready (rs := [14]) (by kernel_rfl) (by decide) ?_
      refine AllE.cons (o := _) rfl (fun K hK => ?_) AllE.nil
      have HBX := Lib.hid (HB1.out.alloc z1 (.cells #[.int .i64 k] 3))
      have OX := Lib.hid (O31.alloc (.cells #[.int .i64 k] 3))
      have zX := HBX.out.size
      refine step_append_lies _ rfl (.tmp 31) (.tmp 33) 28 rfl wb.heap.size 3 i0 _ 1 8 Tryd.underlying28 hi hz0 hz1 hz2 rfl (by decide) v31 _ (intV c) rfl OX.out ⟨w1.heap.size, 0, none⟩ 1 1 [.int .i64 k] rfl rfl (cell_one_new _ _ _) (by intro u hu; simp at hu; subst hu; rfl) (by decide) (by unfold maxLen; omega) (by omega) (by omega) _ rfl ?_
      intro g34 c34 w2 O34 hgrow hat34 hlt34
      have HB2 : Hid (Below wb.heap.size wb w2) := Lib.hid (HBX.out.grown hgrow HBX.out.size (fun q hq => (OX.out.lt q hq).1))
      refine hK.out _ _ (KEEP.out _ HB2.out) (fun hHeld => ?_)
      clear hK K
      try simp only [Act.put, List.setIfInBounds_toArray, List.set_cons_zero, List.set_cons_succ, List.getElem_toArray, List.getElem_cons_zero, List.getElem_cons_succ]
      have OY : Hid (w2.ownsRow wb.heap.size 3 1 (IvL.mk (c ++ [k]) (.slice (some ⟨g34, 0, none⟩) (c.length + 1) c34)).v (c ++ [k]).length (intV (c ++ [k]))) := Lib.hid (owns_ints O34 (by rw [intV_append]; rfl))
      clear O34 hgrow hat34 hlt34
      have z2 := HB2.out.size
      refine E_ready (rs := [15]) (by kernel_rfl) (by decide) ?_
      refine AllE.cons (o := _) rfl (fun K hK => ?_) AllE.nil
      try simp only [List.getElem_toArray, List.getElem_cons_zero, List.getElem_cons_succ]
      go_simp
      refine hK.out _ _ (KEEP.out _ (HB2.out.alloc z2 (.cells #[.slice (some ⟨g34, 0, none⟩) (c.length + 1) c34] 28))) (fun hHeld => ?_)
      clear hK K
      try simp only [Act.put, List.setIfInBounds_toArray, List.set_cons_zero, List.set_cons_succ, List.getElem_toArray, List.getElem_cons_zero, List.getElem_cons_succ]
      have HV3 := Lib.hid (owns_below HS.out.R.vis (HB2.out.alloc z2 (.cells #[.slice (some ⟨g34, 0, none⟩) (c.length + 1) c34] 28)))
      refine E_ready (rs := [16]) (by kernel_rfl) (by decide) ?_
      refine AllE.cons (o := _) rfl (fun K hK => ?_) AllE.nil
      refine step_append_lies _ rfl (.tmp 25) (.tmp 35) 29 rfl B 28 j0 _ 1 24 Tryd.underlying29 hj hy0 hy1 hy2 rfl (by decide) (.slice va X.length vc) _ (ivV X) rfl HV3.out ⟨w2.heap.size, 0, none⟩ 1 1 [.slice (some ⟨g34, 0, none⟩) (c.length + 1) c34] rfl rfl (cell_one_new _ _ _) (by intro u hu; simp at hu; subst hu; rfl) (by decide) (by unfold maxLen; omega) (by omega) (by have := HS.out.lo; have := HS.out.lt; simp; omega) _ rfl ?_
      intro g36 c36 w3 O36 hgrow hat36 hlt36
      have HVB : Hid (Below wb.heap.size wb (w2.alloc (.cells #[.slice (some ⟨g34, 0, none⟩) (c.length + 1) c34] 28))) := Lib.hid (HB2.out.alloc z2 _)
      have GR3 := Lib.hid hgrow
      have ES : Hid (w3.heap[rb]? = some (.cells #[pv, .int .i64 lim, ov, .slice va X.length vc, .int .i64 0, .int .i64 0, cv] 58 (0, 0))) := Lib.hid ((hgrow.block rb (by have := HS.out.lt; have := HVB.out.size; omega) (fun e => (HS.out.below HVB.out).ne_v neS.2.1 e.symm)).trans (HS.out.below HVB.out).row)
      have KEEP3 : Hid (w3.cell? ⟨rb, 3, none⟩ = some (.slice va X.length vc) ∧ w3.cell? ⟨rb, 6, none⟩ = some cv) := Lib.hid (by have hc := (blk ES.out).1; exact ⟨hc 3 _ rfl, hc 6 _ rfl⟩)
      refine hK.out _ _ (KEEP3.out) (fun hHeld => ?_)
      clear hK K
      try simp only [Act.put, List.setIfInBounds_toArray, List.set_cons_zero, List.set_cons_succ, List.getElem_toArray, List.getElem_cons_zero, List.getElem_cons_succ]
      have FIN := Lib.hid (HS.out.told (x := IvL.mk (c ++ [k]) (.slice (some ⟨g34, 0, none⟩) (c.length + 1) c34)) neS.1 neS.2.1 neS.2.2 HVB.out (owns_blks OY.out (fun q hq => Below.heap_alloc _ _ _ (OY.out.lt q hq).2)) GR3.out (by rw [ivV_append]; exact O36) (fun q hq => by simp only [Value.ownBlock, Option.some.injEq] at hq; subst hq; rcases hat36 with e | e; exact .inl e; exact .inr (by have := HVB.out.size; omega)))
      clear O36 hgrow hat36 hlt36 HV3
      refine E_take (i := 17) (oi := _) (v := ?_) rfl (by kernel_rfl) (fun _ _ _ h => h) ?_ (by assumption) ?_
      rotate_left 1
      · first | (refine Or.inl ⟨by rfl, ?_⟩; intro w hSw; (try dsimp only at hSw); (try simp only [List.getElem_toArray, List.getElem_cons_zero, List.getElem_cons_succ]); go_simp; done) | (refine Or.inl ⟨by rfl, ?_⟩; intro w hSw; (try dsimp only at hSw); (try simp only [List.getElem_toArray, List.getElem_cons_zero, List.getElem_cons_succ]); go_simp; with_reducible rfl)
      try simp only [Act.put, List.setIfInBounds_toArray, List.set_cons_zero, List.set_cons_succ, List.getElem_toArray, List.getElem_cons_zero, List.getElem_cons_succ]
      refine E_take (i := 18) (oi := _) (v := ?_) rfl (by kernel_rfl) (fun _ _ _ h => h) ?_ (by assumption) ?_
      rotate_left 1
      · first | (refine Or.inl ⟨by rfl, ?_⟩; intro w hSw; (try dsimp only at hSw); (try simp only [List.getElem_toArray, List.getElem_cons_zero, List.getElem_cons_succ]); go_simp; done) | (refine Or.inl ⟨by rfl, ?_⟩; intro w hSw; (try dsimp only at hSw); (try simp only [List.getElem_toArray, List.getElem_cons_zero, List.getElem_cons_succ]); go_simp; with_reducible rfl)
      try simp only [Act.put, List.setIfInBounds_toArray, List.set_cons_zero, List.set_cons_succ, List.getElem_toArray, List.getElem_cons_zero, List.getElem_cons_succ]
      refine E_take (i := 19) (oi := _) (v := ?_) rfl (by kernel_rfl) (fun _ _ _ h => h) ?_ (by assumption) ?_
      rotate_left 1
      · first | (refine Or.inl ⟨by rfl, ?_⟩; intro w hSw; (try dsimp only at hSw); (try simp only [List.getElem_toArray, List.getElem_cons_zero, List.getElem_cons_succ]); go_simp; done) | (refine Or.inl ⟨by rfl, ?_⟩; intro w hSw; (try dsimp only at hSw); (try simp only [List.getElem_toArray, List.getElem_cons_zero, List.getElem_cons_succ]); go_simp; with_reducible rfl)
      try simp only [Act.put, List.setIfInBounds_toArray, List.set_cons_zero, List.set_cons_succ, List.getElem_toArray, List.getElem_cons_zero, List.getElem_cons_succ]
      have g3 : w3.cell? ⟨rb, 3, none⟩ = some (.slice va X.length vc) := KEEP3.out.1
      have f3 : w3.frozen? ⟨rb, 3, none⟩ = false := (blk ES.out).2.1 3
      refine E_last (o := _) (by kernel_rfl) rfl (by kernel_rfl) (fun K hK => ?_)
      try simp only [List.getElem_toArray, List.getElem_cons_zero, List.getElem_cons_succ]
      go_simp
      refine hK.out _ _ ?_
      clear hK K
      go_wp2
      go_ret
      exact ⟨rfl, _, _, FIN.out.1, (Step.of_below HD.out).trans FIN.out.2⟩
    ·
      try simp only [List.getElem_toArray, List.getElem_cons_zero, List.getElem_cons_succ]
      go_simp
      refine hK.out _ _ (KEEP.out _ (((Below.refl _ _).alloc (Nat.le_refl _) (.cells #[] 3)).alloc (by simp) (.cells #[.int .i64 k] 3)).drew) (fun hHeld => ?_)
      clear hK K
      try simp only [Act.put, List.setIfInBounds_toArray, List.set_cons_zero, List.set_cons_succ, List.getElem_toArray, List.getElem_cons_zero, List.getElem_cons_succ]
      refine E_ready (rs := [11]) (by kernel_rfl) (by decide) ?_
      refine AllE.cons (o := _) rfl (fun K hK => ?_) AllE.nil
      have HBW : Hid (Below wb.heap.size wb (((wb.alloc (.cells #[] 3)).alloc (.cells #[.int .i64 k] 3)).drew)) := Lib.hid ((((Below.refl _ _).alloc (Nat.le_refl _) _).alloc (by simp) _).drew)
      obtain ⟨v31, w1, hr1, O31, G31⟩ := HAP.out (((wb.alloc (.cells #[] 3)).alloc (.cells #[.int .i64 k] 3)).drew) (wb.heap.size) (((World.ownsRow_lit (e := 3) (size := 1) (base := wb.heap.size) wb #[] 0 (Nat.le_refl _) (by decide) rfl).alloc (.cells #[.int .i64 k] 3)).drew) HBW.out
      have HB1 : Hid (Below wb.heap.size wb w1) := Lib.hid (HBW.out.grown G31 HBW.out.size (fun q hq => by injection hq with e; omega))
      refine step_append_run rfl (.tmp 26) (.tmp 30) 28 rfl _ _ _ rfl rfl hr1 ?_
      refine hK.out _ _ (KEEP.out _ HB1.out) (fun hHeld => ?_)
      clear hK K
      try simp only [Act.put, List.setIfInBounds_toArray, List.set_cons_zero, List.set_cons_succ, List.getElem_toArray, List.getElem_cons_zero, List.getElem_cons_succ]
      have KB : Hid (w1.heap[wb.heap.size + 1]? = some (.cells #[.int .i64 k] 3 (0, 0))) := Lib.hid ((G31.block _ (by simp) (fun e => by injection e with e; omega)).trans (by have h := heap_alloc_new (wb.alloc (.cells #[] 3)) (.cells #[.int .i64 k] 3); rw [show (wb.alloc (.cells #[] 3)).heap.size = wb.heap.size + 1 from by simp] at h; exact h))
      refine E_ready (rs := [14]) (by kernel_rfl) (by decide) ?_
      refine AllE.cons (o := _) rfl (fun K hK => ?_) AllE.nil
      have HBX := Lib.hid (HB1.out)
      have OX := Lib.hid (O31)
      have zX := HBX.out.size
      refine step_append_lies _ rfl (.tmp 31) (.tmp 33) 28 rfl wb.heap.size 3 i0 _ 1 8 Tryd.underlying28 hi hz0 hz1 hz2 rfl (by decide) v31 _ (intV c) rfl OX.out ⟨wb.heap.size + 1, 0, none⟩ 1 1 [.int .i64 k] rfl rfl (World.news_of_block (cs := #[.int .i64 k]) (t := 3) (fr := (0, 0)) KB.out) (by intro u hu; simp at hu; subst hu; rfl) (by decide) (by unfold maxLen; omega) (by omega) (by omega) _ rfl ?_
      intro g34 c34 w2 O34 hgrow hat34 hlt34
      have HB2 : Hid (Below wb.heap.size wb w2) := Lib.hid (HBX.out.grown hgrow HBX.out.size (fun q hq => (OX.out.lt q hq).1))
      refine hK.out _ _ (KEEP.out _ HB2.out) (fun hHeld => ?_)
      clear hK K
      try simp only [Act.put, List.setIfInBounds_toArray, List.set_cons_zero, List.set_cons_succ, List.getElem_toArray, List.getElem_cons_zero, List.getElem_cons_succ]
      have OY : Hid (w2.ownsRow wb.heap.size 3 1 (IvL.mk (c ++ [k]) (.slice (some ⟨g34, 0, none⟩) (c.length + 1) c34)).v (c ++ [k]).length (intV (c ++ [k]))) := Lib.hid (owns_ints O34 (by rw [intV_append]; rfl))
      clear O34 hgrow hat34 hlt34
      have z2 := HB2.out.size
      refine E_ready (rs := [15]) (by kernel_rfl) (by decide) ?_
      refine AllE.cons (o := _) rfl (fun K hK => ?_) AllE.nil
      try simp only [List.getElem_toArray, List.getElem_cons_zero, List.getElem_cons_succ]
      go_simp
      refine hK.out _ _ (KEEP.out _ (HB2.out.alloc z2 (.cells #[.slice (some ⟨g34, 0, none⟩) (c.length + 1) c34] 28))) (fun hHeld => ?_)
      clear hK K
      try simp only [Act.put, List.setIfInBounds_toArray, List.set_cons_zero, List.set_cons_succ, List.getElem_toArray, List.getElem_cons_zero, List.getElem_cons_succ]
      have HV3 := Lib.hid (owns_below HS.out.R.vis (HB2.out.alloc z2 (.cells #[.slice (some ⟨g34, 0, none⟩) (c.length + 1) c34] 28)))
      refine E_ready (rs := [16]) (by kernel_rfl) (by decide) ?_
      refine AllE.cons (o := _) rfl (fun K hK => ?_) AllE.nil
      refine step_append_lies _ rfl (.tmp 25) (.tmp 35) 29 rfl B 28 j0 _ 1 24 Tryd.underlying29 hj hy0 hy1 hy2 rfl (by decide) (.slice va X.length vc) _ (ivV X) rfl HV3.out ⟨w2.heap.size, 0, none⟩ 1 1 [.slice (some ⟨g34, 0, none⟩) (c.length + 1) c34] rfl rfl (cell_one_new _ _ _) (by intro u hu; simp at hu; subst hu; rfl) (by decide) (by unfold maxLen; omega) (by omega) (by have := HS.out.lo; have := HS.out.lt; simp; omega) _ rfl ?_
      intro g36 c36 w3 O36 hgrow hat36 hlt36
      have HVB : Hid (Below wb.heap.size wb (w2.alloc (.cells #[.slice (some ⟨g34, 0, none⟩) (c.length + 1) c34] 28))) := Lib.hid (HB2.out.alloc z2 _)
      have GR3 := Lib.hid hgrow
      have ES : Hid (w3.heap[rb]? = some (.cells #[pv, .int .i64 lim, ov, .slice va X.length vc, .int .i64 0, .int .i64 0, cv] 58 (0, 0))) := Lib.hid ((hgrow.block rb (by have := HS.out.lt; have := HVB.out.size; omega) (fun e => (HS.out.below HVB.out).ne_v neS.2.1 e.symm)).trans (HS.out.below HVB.out).row)
      have KEEP3 : Hid (w3.cell? ⟨rb, 3, none⟩ = some (.slice va X.length vc) ∧ w3.cell? ⟨rb, 6, none⟩ = some cv) := Lib.hid (by have hc := (blk ES.out).1; exact ⟨hc 3 _ rfl, hc 6 _ rfl⟩)
      refine hK.out _ _ (KEEP3.out) (fun hHeld => ?_)
      clear hK K
      try simp only [Act.put, List.setIfInBounds_toArray, List.set_cons_zero, List.set_cons_succ, List.getElem_toArray, List.getElem_cons_zero, List.getElem_cons_succ]
      have FIN := Lib.hid (HS.out.told (x := IvL.mk (c ++ [k]) (.slice (some ⟨g34, 0, none⟩) (c.length + 1) c34)) neS.1 neS.2.1 neS.2.2 HVB.out (owns_blks OY.out (fun q hq => Below.heap_alloc _ _ _ (OY.out.lt q hq).2)) GR3.out (by rw [ivV_append]; exact O36) (fun q hq => by simp only [Value.ownBlock, Option.some.injEq] at hq; subst hq; rcases hat36 with e | e; exact .inl e; exact .inr (by have := HVB.out.size; omega)))
      clear O36 hgrow hat36 hlt36 HV3
      refine E_take (i := 17) (oi := _) (v := ?_) rfl (by kernel_rfl) (fun _ _ _ h => h) ?_ (by assumption) ?_
      rotate_left 1
      · first | (refine Or.inl ⟨by rfl, ?_⟩; intro w hSw; (try dsimp only at hSw); (try simp only [List.getElem_toArray, List.getElem_cons_zero, List.getElem_cons_succ]); go_simp; done) | (refine Or.inl ⟨by rfl, ?_⟩; intro w hSw; (try dsimp only at hSw); (try simp only [List.getElem_toArray, List.getElem_cons_zero, List.getElem_cons_succ]); go_simp; with_reducible rfl)
      try simp only [Act.put, List.setIfInBounds_toArray, List.set_cons_zero, List.set_cons_succ, List.getElem_toArray, List.getElem_cons_zero, List.getElem_cons_succ]
      refine E_take (i := 18) (oi := _) (v := ?_) rfl (by kernel_rfl) (fun _ _ _ h => h) ?_ (by assumption) ?_
      rotate_left 1
      · first | (refine Or.inl ⟨by rfl, ?_⟩; intro w hSw; (try dsimp only at hSw); (try simp only [List.getElem_toArray, List.getElem_cons_zero, List.getElem_cons_succ]); go_simp; done) | (refine Or.inl ⟨by rfl, ?_⟩; intro w hSw; (try dsimp only at hSw); (try simp only [List.getElem_toArray, List.getElem_cons_zero, List.getElem_cons_succ]); go_simp; with_reducible rfl)
      try simp only [Act.put, List.setIfInBounds_toArray, List.set_cons_zero, List.set_cons_succ, List.getElem_toArray, List.getElem_cons_zero, List.getElem_cons_succ]
      refine E_take (i := 19) (oi := _) (v := ?_) rfl (by kernel_rfl) (fun _ _ _ h => h) ?_ (by assumption) ?_
      rotate_left 1
      · first | (refine Or.inl ⟨by rfl, ?_⟩; intro w hSw; (try dsimp only at hSw); (try simp only [List.getElem_toArray, List.getElem_cons_zero, List.getElem_cons_succ]); go_simp; done) | (refine Or.inl ⟨by rfl, ?_⟩; intro w hSw; (try dsimp only at hSw); (try simp only [List.getElem_toArray, List.getElem_cons_zero, List.getElem_cons_succ]); go_simp; with_reducible rfl)
      try simp only [Act.put, List.setIfInBounds_toArray, List.set_cons_zero, List.set_cons_succ, List.getElem_toArray, List.getElem_cons_zero, List.getElem_cons_succ]
      have g3 : w3.cell? ⟨rb, 3, none⟩ = some (.slice va X.length vc) := KEEP3.out.1
      have f3 : w3.frozen? ⟨rb, 3, none⟩ = false := (blk ES.out).2.1 3
      refine E_last (o := _) (by kernel_rfl) rfl (by kernel_rfl) (fun K hK => ?_)
      try simp only [List.getElem_toArray, List.getElem_cons_zero, List.getElem_cons_succ]
      go_simp
      refine hK.out _ _ ?_
      clear hK K
      go_wp2
      go_ret
      exact ⟨rfl, _, _, FIN.out.1, (Step.of_below HD.out).trans FIN.out.2⟩
  ·
    try simp only [List.getElem_toArray, List.getElem_cons_zero, List.getElem_cons_succ]
    go_simp
    refine hK.out _ _ (KEEP.out _ ((Below.refl _ _).alloc (Nat.le_refl _) (.cells #[.int .i64 k] 3)).drew) (fun hHeld => ?_)
    clear hK K
    try simp only [Act.put, List.setIfInBounds_toArray, List.set_cons_zero, List.set_cons_succ, List.getElem_toArray, List.getElem_cons_zero, List.getElem_cons_succ]
    refine E_ready (rs := [6]) (by kernel_rfl) (by decide) ?_
    refine AllE.cons (o := _) rfl (fun K hK => ?_) AllE.nil
    try simp only [List.getElem_toArray, List.getElem_cons_zero, List.getElem_cons_succ]
    go_simp
    refine hK.out _ _ (KEEP.out _ (((Below.refl _ _).alloc (Nat.le_refl _) (.cells #[.int .i64 k] 3)).alloc (by simp) (.cells #[] 3)).drew) (fun hHeld => ?_)
    clear hK K
    try simp only [Act.put, List.setIfInBounds_toArray, List.set_cons_zero, List.set_cons_succ, List.getElem_toArray, List.getElem_cons_zero, List.getElem_cons_succ]
    refine E_ready (rs := [11]) (by kernel_rfl) (by decide) ?_
    refine AllE.cons (o := _) rfl (fun K hK => ?_) AllE.nil
    have HBW : Hid (Below wb.heap.size wb (((wb.alloc (.cells #[.int .i64 k] 3)).alloc (.cells #[] 3)).drew)) := Lib.hid ((((Below.refl _ _).alloc (Nat.le_refl _) _).alloc (by simp) _).drew)
    obtain ⟨v31, w1, hr1, O31, G31⟩ := HAP.out (((wb.alloc (.cells #[.int .i64 k] 3)).alloc (.cells #[] 3)).drew) (wb.heap.size + 1) ((by have := World.ownsRow_lit (e := 3) (size := 1) (base := wb.heap.size) (wb.alloc (.cells #[.int .i64 k] 3)) #[] 0 (by simp) (by decide) rfl; simpa using this.drew)) HBW.out
    have HB1 : Hid (Below wb.heap.size wb w1) := Lib.hid (HBW.out.grown G31 HBW.out.size (fun q hq => by injection hq with e; omega))
    refine step_append_run rfl (.tmp 26) (.tmp 30) 28 rfl _ _ _ rfl rfl hr1 ?_
    refine hK.out _ _ (KEEP.out _ HB1.out) (fun hHeld => ?_)
    clear hK K
    try simp only [Act.put, List.setIfInBounds_toArray, List.set_cons_zero, List.set_cons_succ, List.getElem_toArray, List.getElem_cons_zero, List.getElem_cons_succ]
    have KB : Hid (w1.heap[wb.heap.size]? = some (.cells #[.int .i64 k] 3 (0, 0))) := Lib.hid ((G31.block _ (by simp; omega) (fun e => by injection e with e; omega)).trans ((Below.heap_alloc (wb.alloc (.cells #[.int .i64 k] 3)) (.cells #[] 3) _ (by simp)).trans (heap_alloc_new wb (.cells #[.int .i64 k] 3))))
    refine E_ready (rs := [14]) (by kernel_rfl) (by decide) ?_
    refine AllE.cons (o := _) rfl (fun K hK => ?_) AllE.nil
    have HBX := Lib.hid (HB1.out)
    have OX := Lib.hid (O31)
    have zX := HBX.out.size
    refine step_append_lies _ rfl (.tmp 31) (.tmp 33) 28 rfl wb.heap.size 3 i0 _ 1 8 Tryd.underlying28 hi hz0 hz1 hz2 rfl (by decide) v31 _ (intV c) rfl OX.out ⟨wb.heap.size, 0, none⟩ 1 1 [.int .i64 k] rfl rfl (World.news_of_block (cs := #[.int .i64 k]) (t := 3) (fr := (0, 0)) KB.out) (by intro u hu; simp at hu; subst hu; rfl) (by decide) (by unfold maxLen; omega) (by omega) (by omega) _ rfl ?_
    intro g34 c34 w2 O34 hgrow hat34 hlt34
    have HB2 : Hid (Below wb.heap.size wb w2) := Lib.hid (HBX.out.grown hgrow HBX.out.size (fun q hq => (OX.out.lt q hq).1))
    refine hK.out _ _ (KEEP.out _ HB2.out) (fun hHeld => ?_)
    clear hK K
    try simp only [Act.put, List.setIfInBounds_toArray, List.set_cons_zero, List.set_cons_succ, List.getElem_toArray, List.getElem_cons_zero, List.getElem_cons_succ]
    have OY : Hid (w2.ownsRow wb.heap.size 3 1 (IvL.mk (c ++ [k]) (.slice (some ⟨g34, 0, none⟩) (c.length + 1) c34)).v (c ++ [k]).length (intV (c ++ [k]))) := Lib.hid (owns_ints O34 (by rw [intV_append]; rfl))
    clear O34 hgrow hat34 hlt34
    have z2 := HB2.out.size
    refine E_ready (rs := [15]) (by kernel_rfl) (by decide) ?_
    refine AllE.cons (o := _) rfl (fun K hK => ?_) AllE.nil
    try simp only [List.getElem_toArray, List.getElem_cons_zero, List.getElem_cons_succ]
    go_simp
    refine hK.out _ _ (KEEP.out _ (HB2.out.alloc z2 (.cells #[.slice (some ⟨g34, 0, none⟩) (c.length + 1) c34] 28))) (fun hHeld => ?_)
    clear hK K
    try simp only [Act.put, List.setIfInBounds_toArray, List.set_cons_zero, List.set_cons_succ, List.getElem_toArray, List.getElem_cons_zero, List.getElem_cons_succ]
    have HV3 := Lib.hid (owns_below HS.out.R.vis (HB2.out.alloc z2 (.cells #[.slice (some ⟨g34, 0, none⟩) (c.length + 1) c34] 28)))
    refine E_ready (rs := [16]) (by kernel_rfl) (by decide) ?_
    refine AllE.cons (o := _) rfl (fun K hK => ?_) AllE.nil
    refine step_append_lies _ rfl (.tmp 25) (.tmp 35) 29 rfl B 28 j0 _ 1 24 Tryd.underlying29 hj hy0 hy1 hy2 rfl (by decide) (.slice va X.length vc) _ (ivV X) rfl HV3.out ⟨w2.heap.size, 0, none⟩ 1 1 [.slice (some ⟨g34, 0, none⟩) (c.length + 1) c34] rfl rfl (cell_one_new _ _ _) (by intro u hu; simp at hu; subst hu; rfl) (by decide) (by unfold maxLen; omega) (by omega) (by have := HS.out.lo; have := HS.out.lt; simp; omega) _ rfl ?_
    intro g36 c36 w3 O36 hgrow hat36 hlt36
    have HVB : Hid (Below wb.heap.size wb (w2.alloc (.cells #[.slice (some ⟨g34, 0, none⟩) (c.length + 1) c34] 28))) := Lib.hid (HB2.out.alloc z2 _)
    have GR3 := Lib.hid hgrow
    have ES : Hid (w3.heap[rb]? = some (.cells #[pv, .int .i64 lim, ov, .slice va X.length vc, .int .i64 0, .int .i64 0, cv] 58 (0, 0))) := Lib.hid ((hgrow.block rb (by have := HS.out.lt; have := HVB.out.size; omega) (fun e => (HS.out.below HVB.out).ne_v neS.2.1 e.symm)).trans (HS.out.below HVB.out).row)
    have KEEP3 : Hid (w3.cell? ⟨rb, 3, none⟩ = some (.slice va X.length vc) ∧ w3.cell? ⟨rb, 6, none⟩ = some cv) := Lib.hid (by have hc := (blk ES.out).1; exact ⟨hc 3 _ rfl, hc 6 _ rfl⟩)
    refine hK.out _ _ (KEEP3.out) (fun hHeld => ?_)
    clear hK K
    try simp only [Act.put, List.setIfInBounds_toArray, List.set_cons_zero, List.set_cons_succ, List.getElem_toArray, List.getElem_cons_zero, List.getElem_cons_succ]
    have FIN := Lib.hid (HS.out.told (x := IvL.mk (c ++ [k]) (.slice (some ⟨g34, 0, none⟩) (c.length + 1) c34)) neS.1 neS.2.1 neS.2.2 HVB.out (owns_blks OY.out (fun q hq => Below.heap_alloc _ _ _ (OY.out.lt q hq).2)) GR3.out (by rw [ivV_append]; exact O36) (fun q hq => by simp only [Value.ownBlock, Option.some.injEq] at hq; subst hq; rcases hat36 with e | e; exact .inl e; exact .inr (by have := HVB.out.size; omega)))
    clear O36 hgrow hat36 hlt36 HV3
    refine E_take (i := 17) (oi := _) (v := ?_) rfl (by kernel_rfl) (fun _ _ _ h => h) ?_ (by assumption) ?_
    rotate_left 1
    · first | (refine Or.inl ⟨by rfl, ?_⟩; intro w hSw; (try dsimp only at hSw); (try simp only [List.getElem_toArray, List.getElem_cons_zero, List.getElem_cons_succ]); go_simp; done) | (refine Or.inl ⟨by rfl, ?_⟩; intro w hSw; (try dsimp only at hSw); (try simp only [List.getElem_toArray, List.getElem_cons_zero, List.getElem_cons_succ]); go_simp; with_reducible rfl)
    try simp only [Act.put, List.setIfInBounds_toArray, List.set_cons_zero, List.set_cons_succ, List.getElem_toArray, List.getElem_cons_zero, List.getElem_cons_succ]
    refine E_take (i := 18) (oi := _) (v := ?_) rfl (by kernel_rfl) (fun _ _ _ h => h) ?_ (by assumption) ?_
    rotate_left 1
    · first | (refine Or.inl ⟨by rfl, ?_⟩; intro w hSw; (try dsimp only at hSw); (try simp only [List.getElem_toArray, List.getElem_cons_zero, List.getElem_cons_succ]); go_simp; done) | (refine Or.inl ⟨by rfl, ?_⟩; intro w hSw; (try dsimp only at hSw); (try simp only [List.getElem_toArray, List.getElem_cons_zero, List.getElem_cons_succ]); go_simp; with_reducible rfl)
    try simp only [Act.put, List.setIfInBounds_toArray, List.set_cons_zero, List.set_cons_succ, List.getElem_toArray, List.getElem_cons_zero, List.getElem_cons_succ]
    refine E_take (i := 19) (oi := _) (v := ?_) rfl (by kernel_rfl) (fun _ _ _ h => h) ?_ (by assumption) ?_
    rotate_left 1
    · first | (refine Or.inl ⟨by rfl, ?_⟩; intro w hSw; (try dsimp only at hSw); (try simp only [List.getElem_toArray, List.getElem_cons_zero, List.getElem_cons_succ]); go_simp; done) | (refine Or.inl ⟨by rfl, ?_⟩; intro w hSw; (try dsimp only at hSw); (try simp only [List.getElem_toArray, List.getElem_cons_zero, List.getElem_cons_succ]); go_simp; with_reducible rfl)
    try simp only [Act.put, List.setIfInBounds_toArray, List.set_cons_zero, List.set_cons_succ, List.getElem_toArray, List.getElem_cons_zero, List.getElem_cons_succ]
    have g3 : w3.cell? ⟨rb, 3, none⟩ = some (.slice va X.length vc) := KEEP3.out.1
    have f3 : w3.frozen? ⟨rb, 3, none⟩ = false := (blk ES.out).2.1 3
    refine E_last (o := _) (by kernel_rfl) rfl (by kernel_rfl) (fun K hK => ?_)
    try simp only [List.getElem_toArray, List.getElem_cons_zero, List.getElem_cons_succ]
    go_simp
    refine hK.out _ _ ?_
    clear hK K
    go_wp2
    go_ret
    exact ⟨rfl, _, _, FIN.out.1, (Step.of_below HD.out).trans FIN.out.2⟩
end Go.Proofs.YtcnnfhcpkbjolaaDoor
