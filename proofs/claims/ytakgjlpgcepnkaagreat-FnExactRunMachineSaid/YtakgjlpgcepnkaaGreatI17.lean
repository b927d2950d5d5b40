/- The program's instructions: what performs them. -/
import Derived.Test.YtakgjlpgcepnkaaGreatI16
import Derived.Test.YtakgjlpgcepnkaaGreatI02
import Derived.Deep.Cut
namespace Go.Proofs.YtakgjlpgcepnkaaGreat
open Go.RowKit Go.Lib

theorem load_m (s : McS) (a : Int) : (loadIM s a).2.1 = s.1 := by unfold loadIM; split <;> rfl
theorem pop_m (s : McS) : (popI s).2.1 = { s.1 with sp := IntKind.i64.wrap (s.1.sp + 1) } := by unfold popI; exact load_m _ _
section
variable {B cb mb : Nat} {w : World} {ev sv ov : Value} {s : McS}
/-- A block that was made behind the machine is not turned by it. -/
theorem MiAt.apart (h : MiAt B cb mb w ev sv ov s) : w.heap.size ≠ mb ∧ ∀ u ∈ MM cb sv ov, u.ownBlock ≠ some w.heap.size := by
  refine ⟨fun e => by have := h.mc.lt; omega, fun u hu e => ?_⟩
  unfold MM at hu
  simp only [List.mem_cons, List.not_mem_nil, or_false] at hu
  rcases hu with rfl | rfl | rfl
  · have := (blk h.cr).2.2
    have e2 : cb = w.heap.size := Option.some.inj e
    omega
  · have := (h.mc.st.lt _ e).2; omega
  · have := (h.mc.out.lt _ e).2; omega
/-- The instruction's box stays as it is. -/
theorem MiAt.box (h : MiAt B cb mb w ev sv ov s) (c a : Int) {W : World} {M' : List Value} (hS : Step mb (MM cb sv ov) M' (w.alloc (.cells #[.int .i64 c, .int .i64 a] 75)) W) : W.cell? ⟨w.heap.size, 0, none⟩ = some (.int .i64 c) ∧ W.cell? ⟨w.heap.size, 1, none⟩ = some (.int .i64 a) := by
  have hk : W.heap[w.heap.size]? = some (.cells #[.int .i64 c, .int .i64 a] 75 (0, 0)) := hS.keep (heap_alloc_new w _) h.apart.1 h.apart.2
  exact ⟨(blk hk).1 0 _ rfl, (blk hk).1 1 _ rfl⟩
/-- The instruction's box is there; what may have been turned since. -/
structure Bx (B cb mb : Nat) (ev sv ov : Value) (w : World) (c a : Int) (s : McS) (W : World) : Prop where
  mi : MiAt B cb mb W ev sv ov s
  st : Step mb (MM cb sv ov) (MM cb sv ov) (w.alloc (.cells #[.int .i64 c, .int .i64 a] 75)) W
  al : Step mb (MM cb sv ov) (MM cb sv ov) w W
  b0 : W.cell? ⟨w.heap.size, 0, none⟩ = some (.int .i64 c)
  b1 : W.cell? ⟨w.heap.size, 1, none⟩ = some (.int .i64 a)
theorem MiAt.bx (h : MiAt B cb mb w ev sv ov s) (c a : Int) : Bx B cb mb ev sv ov w c a s (w.alloc (.cells #[.int .i64 c, .int .i64 a] 75)) :=
  ⟨h.below ((Below.refl w.heap.size w).alloc (Nat.le_refl _) _), Step.refl _ _ _, Step.of_below ((Below.refl w.heap.size w).alloc (Nat.le_refl _) _), (h.box c a (Step.refl _ _ _)).1, (h.box c a (Step.refl _ _ _)).2⟩
theorem Bx.next {s' : McS} {c a : Int} {W W' : World} (h : MiAt B cb mb w ev sv ov s) {s1 : McS} (hb : Bx B cb mb ev sv ov w c a s1 W) (hm : MiAt B cb mb W' ev sv ov s') (hS : Step mb (MM cb sv ov) (MM cb sv ov) W W') : Bx B cb mb ev sv ov w c a s' W' :=
  ⟨hm, hb.st.trans hS, hb.al.trans hS, (h.box c a (hb.st.trans hS)).1, (h.box c a (hb.st.trans hS)).2⟩
theorem Bx.drew {c a : Int} {W : World} (h : MiAt B cb mb w ev sv ov s) {s1 : McS} (hb : Bx B cb mb ev sv ov w c a s1 W) : Bx B cb mb ev sv ov w c a s1 W.drew := hb.next h (hb.mi.below (Below.refl _ _).drew) (Step.of_below (Below.refl _ _).drew)
set_option maxRecDepth 100000 in
set_option maxHeartbeats 2000000 in
theorem i_constant (h : MiAt B cb mb w ev sv ov s) (c a : Int) : Calls Tryz.prog 75 #[.pointer (some ⟨cb, 0, none⟩), .agg #[.int .i64 c, .int .i64 a]] w (MiR B cb mb ev sv ov (.tuple #[]) (pushI s a) w) := by
  have H := Lib.hid h
  have B0 := Lib.hid (h.bx c a)
  clear h
  go_enter Tryz.func75, Tryz.ntmps75
  go_wp2_with fail
  refine (i_push B0.out.mi a).mono ?_
  rintro e w1 ⟨rfl, HC1, HS1⟩
  have B1 := Lib.hid (B0.out.next H.out HC1.out HS1.out)
  clear HC1 HS1
  go_wp2
  go_end0
  exact ⟨rfl, Lib.hid B1.out.mi, Lib.hid B1.out.al⟩
set_option maxRecDepth 100000 in
set_option maxHeartbeats 2000000 in
theorem i_loadFrame (h : MiAt B cb mb w ev sv ov s) (c a : Int) : Calls Tryz.prog 76 #[.pointer (some ⟨cb, 0, none⟩), .agg #[.int .i64 c, .int .i64 a]] w (MiR B cb mb ev sv ov (.tuple #[]) (pushI (loadIM s (IntKind.i64.wrap (s.1.fp + a))).2 (loadIM s (IntKind.i64.wrap (s.1.fp + a))).1) w) := by
  have H := Lib.hid h
  have B0 := Lib.hid (h.bx c a)
  obtain ⟨v0, hv⟩ : ∃ x, s.1.fp = x := ⟨_, rfl⟩
  obtain ⟨q, hq⟩ : ∃ x, IntKind.i64.wrap (v0 + a) = x := ⟨_, rfl⟩
  rw [hv, hq]
  have K0 : Hid ((w.alloc (.cells #[.int .i64 c, .int .i64 a] 75)).cell? ⟨cb, 0, none⟩ = some (.pointer (some ⟨mb, 0, none⟩)) ∧ (w.alloc (.cells #[.int .i64 c, .int .i64 a] 75)).cell? ⟨mb, 2, none⟩ = some (.int .i64 v0) ∧ (w.alloc (.cells #[.int .i64 c, .int .i64 a] 75)).cell? ⟨w.heap.size, 1, none⟩ = some (.int .i64 a)) := Lib.hid ⟨B0.out.mi.cells.1, by rw [← hv]; exact B0.out.mi.mc.cells.2.2.1, B0.out.b1⟩
  have BD := Lib.hid (B0.out.drew H.out)
  have HV := Lib.hid hv
  clear hv
  clear h
  go_enter Tryz.func76, Tryz.ntmps76
  go_upto_region 1 with fail
  refine E_start (S := (fun w' => w'.cell? ⟨cb, 0, none⟩ = some (.pointer (some ⟨mb, 0, none⟩)) ∧ w'.cell? ⟨mb, 2, none⟩ = some (.int .i64 v0) ∧ w'.cell? ⟨w.heap.size, 1, none⟩ = some (.int .i64 a))) 13 (by kernel_rfl) (K0.out) (fun hHeld => ?_)
  refine E_take (i := 0) (oi := _) (v := ?_) rfl (by kernel_rfl) (fun _ _ _ h => h) ?_ (by assumption) ?_
  rotate_left 1
  · (refine Or.inl ⟨by rfl, ?_⟩; intro w hSw; (try dsimp only at hSw); (try simp only [List.getElem_toArray, List.getElem_cons_zero, List.getElem_cons_succ]); go_simp; (first | done | with_reducible rfl))
  try simp only [Act.put, List.setIfInBounds_toArray, List.set_cons_zero, List.set_cons_succ, List.getElem_toArray, List.getElem_cons_zero, List.getElem_cons_succ]
  refine E_take (i := 1) (oi := _) (v := ?_) rfl (by kernel_rfl) (fun _ _ _ h => h) ?_ (by assumption) ?_
  rotate_left 1
  · (refine Or.inl ⟨by rfl, ?_⟩; intro w hSw; (try dsimp only at hSw); (try simp only [List.getElem_toArray, List.getElem_cons_zero, List.getElem_cons_succ]); go_simp; (first | done | with_reducible rfl))
  try simp only [Act.put, List.setIfInBounds_toArray, List.set_cons_zero, List.set_cons_succ, List.getElem_toArray, List.getElem_cons_zero, List.getElem_cons_succ]
  refine E_take (i := 2) (oi := _) (v := ?_) rfl (by kernel_rfl) (fun _ _ _ h => h) ?_ (by assumption) ?_
  rotate_left 1
  · (refine Or.inl ⟨by rfl, ?_⟩; intro w hSw; (try dsimp only at hSw); (try simp only [List.getElem_toArray, List.getElem_cons_zero, List.getElem_cons_succ]); go_simp; (first | done | with_reducible rfl))
  try simp only [Act.put, List.setIfInBounds_toArray, List.set_cons_zero, List.set_cons_succ, List.getElem_toArray, List.getElem_cons_zero, List.getElem_cons_succ]
  refine E_take (i := 3) (oi := _) (v := ?_) rfl (by kernel_rfl) (fun _ _ _ h => h) ?_ (by assumption) ?_
  rotate_left 1
  · (refine Or.inl ⟨by rfl, ?_⟩; intro w hSw; (try dsimp only at hSw); (try simp only [List.getElem_toArray, List.getElem_cons_zero, List.getElem_cons_succ]); go_simp; (first | done | with_reducible rfl))
  try simp only [Act.put, List.setIfInBounds_toArray, List.set_cons_zero, List.set_cons_succ, List.getElem_toArray, List.getElem_cons_zero, List.getElem_cons_succ]
  refine E_take (i := 4) (oi := _) (v := ?_) rfl (by kernel_rfl) (fun _ _ _ h => h) ?_ (by assumption) ?_
  rotate_left 1
  · (refine Or.inl ⟨by rfl, ?_⟩; intro w hSw; (try dsimp only at hSw); (try simp only [List.getElem_toArray, List.getElem_cons_zero, List.getElem_cons_succ]); go_simp; (first | done | with_reducible rfl))
  try simp only [Act.put, List.setIfInBounds_toArray, List.set_cons_zero, List.set_cons_succ, List.getElem_toArray, List.getElem_cons_zero, List.getElem_cons_succ]
  refine E_take (i := 5) (oi := _) (v := ?_) rfl (by kernel_rfl) (fun _ _ _ h => h) ?_ (by assumption) ?_
  rotate_left 1
  · (refine Or.inl ⟨by rfl, ?_⟩; intro w hSw; (try dsimp only at hSw); (try simp only [List.getElem_toArray, List.getElem_cons_zero, List.getElem_cons_succ]); go_simp; (first | done | with_reducible rfl))
  try simp only [Act.put, List.setIfInBounds_toArray, List.set_cons_zero, List.set_cons_succ, List.getElem_toArray, List.getElem_cons_zero, List.getElem_cons_succ]
  refine E_take (i := 6) (oi := _) (v := ?_) rfl (by kernel_rfl) (fun _ _ _ h => h) ?_ (by assumption) ?_
  rotate_left 1
  · (refine Or.inl ⟨by rfl, ?_⟩; intro w hSw; (try dsimp only at hSw); (try simp only [List.getElem_toArray, List.getElem_cons_zero, List.getElem_cons_succ]); go_simp; (first | done | with_reducible rfl))
  try simp only [Act.put, List.setIfInBounds_toArray, List.set_cons_zero, List.set_cons_succ, List.getElem_toArray, List.getElem_cons_zero, List.getElem_cons_succ]
  refine E_take (i := 7) (oi := _) (v := ?_) rfl (by kernel_rfl) (fun _ _ _ h => h) ?_ (by assumption) ?_
  rotate_left 1
  · (refine Or.inl ⟨by rfl, ?_⟩; intro w hSw; (try dsimp only at hSw); (try simp only [List.getElem_toArray, List.getElem_cons_zero, List.getElem_cons_succ]); go_simp; (first | done | with_reducible rfl))
  try simp only [Act.put, List.setIfInBounds_toArray, List.set_cons_zero, List.set_cons_succ, List.getElem_toArray, List.getElem_cons_zero, List.getElem_cons_succ]
  refine E_take (i := 8) (oi := _) (v := ?_) rfl (by kernel_rfl) (fun _ _ _ h => h) ?_ (by assumption) ?_
  rotate_left 1
  · (refine Or.inl ⟨by rfl, ?_⟩; intro w hSw; (try dsimp only at hSw); (try simp only [List.getElem_toArray, List.getElem_cons_zero, List.getElem_cons_succ]); go_simp; (first | done | with_reducible rfl))
  try simp only [Act.put, List.setIfInBounds_toArray, List.set_cons_zero, List.set_cons_succ, List.getElem_toArray, List.getElem_cons_zero, List.getElem_cons_succ]
  refine E_take (i := 9) (oi := _) (v := ?_) rfl (by kernel_rfl) (fun _ _ _ h => h) ?_ (by assumption) ?_
  rotate_left 1
  · (refine Or.inl ⟨by rfl, ?_⟩; intro w hSw; (try dsimp only at hSw); (try simp only [List.getElem_toArray, List.getElem_cons_zero, List.getElem_cons_succ]); go_simp; (first | done | with_reducible rfl))
  try simp only [Act.put, List.setIfInBounds_toArray, List.set_cons_zero, List.set_cons_succ, List.getElem_toArray, List.getElem_cons_zero, List.getElem_cons_succ]
  refine E_take (i := 10) (oi := _) (v := ?_) rfl (by kernel_rfl) (fun _ _ _ h => h) ?_ (by assumption) ?_
  rotate_left 1
  · (refine Or.inl ⟨by rfl, ?_⟩; intro w hSw; (try dsimp only at hSw); (try simp only [List.getElem_toArray, List.getElem_cons_zero, List.getElem_cons_succ]); go_simp; (first | done | with_reducible rfl))
  try simp only [Act.put, List.setIfInBounds_toArray, List.set_cons_zero, List.set_cons_succ, List.getElem_toArray, List.getElem_cons_zero, List.getElem_cons_succ]
  refine E_take (i := 11) (oi := _) (v := ?_) rfl (by kernel_rfl) (fun _ _ _ h => h) ?_ (by assumption) ?_
  rotate_left 1
  · (refine Or.inl ⟨by rfl, ?_⟩; intro w hSw; (try dsimp only at hSw); (try simp only [List.getElem_toArray, List.getElem_cons_zero, List.getElem_cons_succ]); go_simp; (first | done | with_reducible rfl))
  try simp only [Act.put, List.setIfInBounds_toArray, List.set_cons_zero, List.set_cons_succ, List.getElem_toArray, List.getElem_cons_zero, List.getElem_cons_succ]
  refine E_ready (rs := [12]) (by kernel_rfl) (by decide) ?_
  refine AllE.cons (o := _) rfl (fun K hK => ?_) AllE.nil
  try simp only [List.getElem_toArray, List.getElem_cons_zero, List.getElem_cons_succ]
  go_simp
  refine (i_load BD.out.mi q).mono ?_
  rintro e w1 ⟨rfl, HC1, HS1⟩
  go_wp2_with fail
  have B1 := Lib.hid (BD.out.next H.out HC1.out HS1.out)
  have K1 : Hid (w1.cell? ⟨cb, 0, none⟩ = some (.pointer (some ⟨mb, 0, none⟩)) ∧ w1.cell? ⟨mb, 2, none⟩ = some (.int .i64 v0) ∧ w1.cell? ⟨w.heap.size, 1, none⟩ = some (.int .i64 a)) := Lib.hid ⟨B1.out.mi.cells.1, by have h := B1.out.mi.mc.cells.2.2.1; rw [load_m, HV.out] at h; exact h, B1.out.b1⟩
  refine hK.out _ _ (K1.out) (fun hHeld => ?_)
  clear hK K
  try simp only [Act.put, List.setIfInBounds_toArray, List.set_cons_zero, List.set_cons_succ, List.getElem_toArray, List.getElem_cons_zero, List.getElem_cons_succ]
  refine E_last (o := _) (by kernel_rfl) rfl (by kernel_rfl) (fun K hK => ?_)
  try simp only [List.getElem_toArray, List.getElem_cons_zero, List.getElem_cons_succ]
  go_simp
  refine (i_push B1.out.mi (loadIM s q).1).mono ?_
  rintro e w2 ⟨rfl, HC2, HS2⟩
  go_wp2_with fail
  have B2 := Lib.hid (B1.out.next H.out HC2.out HS2.out)
  clear HC2 HS2
  refine hK.out _ _ ?_
  clear hK K
  go_wp2
  go_end0
  exact ⟨rfl, Lib.hid B2.out.mi, Lib.hid B2.out.al⟩
set_option maxRecDepth 100000 in
set_option maxHeartbeats 2000000 in
theorem i_loadStack (h : MiAt B cb mb w ev sv ov s) (c a : Int) : Calls Tryz.prog 78 #[.pointer (some ⟨cb, 0, none⟩), .agg #[.int .i64 c, .int .i64 a]] w (MiR B cb mb ev sv ov (.tuple #[]) (pushI (loadIM s (IntKind.i64.wrap (s.1.sp + a))).2 (loadIM s (IntKind.i64.wrap (s.1.sp + a))).1) w) := by
  have H := Lib.hid h
  have B0 := Lib.hid (h.bx c a)
  obtain ⟨v0, hv⟩ : ∃ x, s.1.sp = x := ⟨_, rfl⟩
  obtain ⟨q, hq⟩ : ∃ x, IntKind.i64.wrap (v0 + a) = x := ⟨_, rfl⟩
  rw [hv, hq]
  have K0 : Hid ((w.alloc (.cells #[.int .i64 c, .int .i64 a] 75)).cell? ⟨cb, 0, none⟩ = some (.pointer (some ⟨mb, 0, none⟩)) ∧ (w.alloc (.cells #[.int .i64 c, .int .i64 a] 75)).cell? ⟨mb, 1, none⟩ = some (.int .i64 v0) ∧ (w.alloc (.cells #[.int .i64 c, .int .i64 a] 75)).cell? ⟨w.heap.size, 1, none⟩ = some (.int .i64 a)) := Lib.hid ⟨B0.out.mi.cells.1, by rw [← hv]; exact B0.out.mi.mc.cells.2.1, B0.out.b1⟩
  have BD := Lib.hid (B0.out.drew H.out)
  have HV := Lib.hid hv
  clear hv
  clear h
  go_enter Tryz.func78, Tryz.ntmps78
  go_upto_region 1 with fail
  refine E_start (S := (fun w' => w'.cell? ⟨cb, 0, none⟩ = some (.pointer (some ⟨mb, 0, none⟩)) ∧ w'.cell? ⟨mb, 1, none⟩ = some (.int .i64 v0) ∧ w'.cell? ⟨w.heap.size, 1, none⟩ = some (.int .i64 a))) 13 (by kernel_rfl) (K0.out) (fun hHeld => ?_)
  refine E_take (i := 0) (oi := _) (v := ?_) rfl (by kernel_rfl) (fun _ _ _ h => h) ?_ (by assumption) ?_
  rotate_left 1
  · (refine Or.inl ⟨by rfl, ?_⟩; intro w hSw; (try dsimp only at hSw); (try simp only [List.getElem_toArray, List.getElem_cons_zero, List.getElem_cons_succ]); go_simp; (first | done | with_reducible rfl))
  try simp only [Act.put, List.setIfInBounds_toArray, List.set_cons_zero, List.set_cons_succ, List.getElem_toArray, List.getElem_cons_zero, List.getElem_cons_succ]
  refine E_take (i := 1) (oi := _) (v := ?_) rfl (by kernel_rfl) (fun _ _ _ h => h) ?_ (by assumption) ?_
  rotate_left 1
  · (refine Or.inl ⟨by rfl, ?_⟩; intro w hSw; (try dsimp only at hSw); (try simp only [List.getElem_toArray, List.getElem_cons_zero, List.getElem_cons_succ]); go_simp; (first | done | with_reducible rfl))
  try simp only [Act.put, List.setIfInBounds_toArray, List.set_cons_zero, List.set_cons_succ, List.getElem_toArray, List.getElem_cons_zero, List.getElem_cons_succ]
  refine E_take (i := 2) (oi := _) (v := ?_) rfl (by kernel_rfl) (fun _ _ _ h => h) ?_ (by assumption) ?_
  rotate_left 1
  · (refine Or.inl ⟨by rfl, ?_⟩; intro w hSw; (try dsimp only at hSw); (try simp only [List.getElem_toArray, List.getElem_cons_zero, List.getElem_cons_succ]); go_simp; (first | done | with_reducible rfl))
  try simp only [Act.put, List.setIfInBounds_toArray, List.set_cons_zero, List.set_cons_succ, List.getElem_toArray, List.getElem_cons_zero, List.getElem_cons_succ]
  refine E_take (i := 3) (oi := _) (v := ?_) rfl (by kernel_rfl) (fun _ _ _ h => h) ?_ (by assumption) ?_
  rotate_left 1
  · (refine Or.inl ⟨by rfl, ?_⟩; intro w hSw; (try dsimp only at hSw); (try simp only [List.getElem_toArray, List.getElem_cons_zero, List.getElem_cons_succ]); go_simp; (first | done | with_reducible rfl))
  try simp only [Act.put, List.setIfInBounds_toArray, List.set_cons_zero, List.set_cons_succ, List.getElem_toArray, List.getElem_cons_zero, List.getElem_cons_succ]
  refine E_take (i := 4) (oi := _) (v := ?_) rfl (by kernel_rfl) (fun _ _ _ h => h) ?_ (by assumption) ?_
  rotate_left 1
  · (refine Or.inl ⟨by rfl, ?_⟩; intro w hSw; (try dsimp only at hSw); (try simp only [List.getElem_toArray, List.getElem_cons_zero, List.getElem_cons_succ]); go_simp; (first | done | with_reducible rfl))
  try simp only [Act.put, List.setIfInBounds_toArray, List.set_cons_zero, List.set_cons_succ, List.getElem_toArray, List.getElem_cons_zero, List.getElem_cons_succ]
  refine E_take (i := 5) (oi := _) (v := ?_) rfl (by kernel_rfl) (fun _ _ _ h => h) ?_ (by assumption) ?_
  rotate_left 1
  · (refine Or.inl ⟨by rfl, ?_⟩; intro w hSw; (try dsimp only at hSw); (try simp only [List.getElem_toArray, List.getElem_cons_zero, List.getElem_cons_succ]); go_simp; (first | done | with_reducible rfl))
  try simp only [Act.put, List.setIfInBounds_toArray, List.set_cons_zero, List.set_cons_succ, List.getElem_toArray, List.getElem_cons_zero, List.getElem_cons_succ]
  refine E_take (i := 6) (oi := _) (v := ?_) rfl (by kernel_rfl) (fun _ _ _ h => h) ?_ (by assumption) ?_
  rotate_left 1
  · (refine Or.inl ⟨by rfl, ?_⟩; intro w hSw; (try dsimp only at hSw); (try simp only [List.getElem_toArray, List.getElem_cons_zero, List.getElem_cons_succ]); go_simp; (first | done | with_reducible rfl))
  try simp only [Act.put, List.setIfInBounds_toArray, List.set_cons_zero, List.set_cons_succ, List.getElem_toArray, List.getElem_cons_zero, List.getElem_cons_succ]
  refine E_take (i := 7) (oi := _) (v := ?_) rfl (by kernel_rfl) (fun _ _ _ h => h) ?_ (by assumption) ?_
  rotate_left 1
  · (refine Or.inl ⟨by rfl, ?_⟩; intro w hSw; (try dsimp only at hSw); (try simp only [List.getElem_toArray, List.getElem_cons_zero, List.getElem_cons_succ]); go_simp; (first | done | with_reducible rfl))
  try simp only [Act.put, List.setIfInBounds_toArray, List.set_cons_zero, List.set_cons_succ, List.getElem_toArray, List.getElem_cons_zero, List.getElem_cons_succ]
  refine E_take (i := 8) (oi := _) (v := ?_) rfl (by kernel_rfl) (fun _ _ _ h => h) ?_ (by assumption) ?_
  rotate_left 1
  · (refine Or.inl ⟨by rfl, ?_⟩; intro w hSw; (try dsimp only at hSw); (try simp only [List.getElem_toArray, List.getElem_cons_zero, List.getElem_cons_succ]); go_simp; (first | done | with_reducible rfl))
  try simp only [Act.put, List.setIfInBounds_toArray, List.set_cons_zero, List.set_cons_succ, List.getElem_toArray, List.getElem_cons_zero, List.getElem_cons_succ]
  refine E_take (i := 9) (oi := _) (v := ?_) rfl (by kernel_rfl) (fun _ _ _ h => h) ?_ (by assumption) ?_
  rotate_left 1
  · (refine Or.inl ⟨by rfl, ?_⟩; intro w hSw; (try dsimp only at hSw); (try simp only [List.getElem_toArray, List.getElem_cons_zero, List.getElem_cons_succ]); go_simp; (first | done | with_reducible rfl))
  try simp only [Act.put, List.setIfInBounds_toArray, List.set_cons_zero, List.set_cons_succ, List.getElem_toArray, List.getElem_cons_zero, List.getElem_cons_succ]
  refine E_take (i := 10) (oi := _) (v := ?_) rfl (by kernel_rfl) (fun _ _ _ h => h) ?_ (by assumption) ?_
  rotate_left 1
  · (refine Or.inl ⟨by rfl, ?_⟩; intro w hSw; (try dsimp only at hSw); (try simp only [List.getElem_toArray, List.getElem_cons_zero, List.getElem_cons_succ]); go_simp; (first | done | with_reducible rfl))
  try simp only [Act.put, List.setIfInBounds_toArray, List.set_cons_zero, List.set_cons_succ, List.getElem_toArray, List.getElem_cons_zero, List.getElem_cons_succ]
  refine E_take (i := 11) (oi := _) (v := ?_) rfl (by kernel_rfl) (fun _ _ _ h => h) ?_ (by assumption) ?_
  rotate_left 1
  · (refine Or.inl ⟨by rfl, ?_⟩; intro w hSw; (try dsimp only at hSw); (try simp only [List.getElem_toArray, List.getElem_cons_zero, List.getElem_cons_succ]); go_simp; (first | done | with_reducible rfl))
  try simp only [Act.put, List.setIfInBounds_toArray, List.set_cons_zero, List.set_cons_succ, List.getElem_toArray, List.getElem_cons_zero, List.getElem_cons_succ]
  refine E_ready (rs := [12]) (by kernel_rfl) (by decide) ?_
  refine AllE.cons (o := _) rfl (fun K hK => ?_) AllE.nil
  try simp only [List.getElem_toArray, List.getElem_cons_zero, List.getElem_cons_succ]
  go_simp
  refine (i_load BD.out.mi q).mono ?_
  rintro e w1 ⟨rfl, HC1, HS1⟩
  go_wp2_with fail
  have B1 := Lib.hid (BD.out.next H.out HC1.out HS1.out)
  have K1 : Hid (w1.cell? ⟨cb, 0, none⟩ = some (.pointer (some ⟨mb, 0, none⟩)) ∧ w1.cell? ⟨mb, 1, none⟩ = some (.int .i64 v0) ∧ w1.cell? ⟨w.heap.size, 1, none⟩ = some (.int .i64 a)) := Lib.hid ⟨B1.out.mi.cells.1, by have h := B1.out.mi.mc.cells.2.1; rw [load_m, HV.out] at h; exact h, B1.out.b1⟩
  refine hK.out _ _ (K1.out) (fun hHeld => ?_)
  clear hK K
  try simp only [Act.put, List.setIfInBounds_toArray, List.set_cons_zero, List.set_cons_succ, List.getElem_toArray, List.getElem_cons_zero, List.getElem_cons_succ]
  refine E_last (o := _) (by kernel_rfl) rfl (by kernel_rfl) (fun K hK => ?_)
  try simp only [List.getElem_toArray, List.getElem_cons_zero, List.getElem_cons_succ]
  go_simp
  refine (i_push B1.out.mi (loadIM s q).1).mono ?_
  rintro e w2 ⟨rfl, HC2, HS2⟩
  go_wp2_with fail
  have B2 := Lib.hid (B1.out.next H.out HC2.out HS2.out)
  clear HC2 HS2
  refine hK.out _ _ ?_
  clear hK K
  go_wp2
  go_end0
  exact ⟨rfl, Lib.hid B2.out.mi, Lib.hid B2.out.al⟩
set_option maxRecDepth 100000 in
set_option maxHeartbeats 2000000 in
theorem i_storeFrame (h : MiAt B cb mb w ev sv ov s) (c a : Int) : Calls Tryz.prog 77 #[.pointer (some ⟨cb, 0, none⟩), .agg #[.int .i64 c, .int .i64 a]] w (MiR B cb mb ev sv ov (.tuple #[]) (storeIM (popI s).2 (IntKind.i64.wrap (s.1.fp + a)) (popI s).1) w) := by
  have H := Lib.hid h
  have B0 := Lib.hid (h.bx c a)
  obtain ⟨v0, hv⟩ : ∃ x, s.1.fp = x := ⟨_, rfl⟩
  obtain ⟨q, hq⟩ : ∃ x, IntKind.i64.wrap (v0 + a) = x := ⟨_, rfl⟩
  rw [hv, hq]
  have K0 : Hid ((w.alloc (.cells #[.int .i64 c, .int .i64 a] 75)).cell? ⟨cb, 0, none⟩ = some (.pointer (some ⟨mb, 0, none⟩)) ∧ (w.alloc (.cells #[.int .i64 c, .int .i64 a] 75)).cell? ⟨mb, 2, none⟩ = some (.int .i64 v0) ∧ (w.alloc (.cells #[.int .i64 c, .int .i64 a] 75)).cell? ⟨w.heap.size, 1, none⟩ = some (.int .i64 a)) := Lib.hid ⟨B0.out.mi.cells.1, by rw [← hv]; exact B0.out.mi.mc.cells.2.2.1, B0.out.b1⟩
  have BD := Lib.hid (B0.out.drew H.out)
  have HV := Lib.hid hv
  clear hv
  clear h
  go_enter Tryz.func77, Tryz.ntmps77
  go_upto_region 1 with fail
  refine E_start (S := (fun w' => w'.cell? ⟨cb, 0, none⟩ = some (.pointer (some ⟨mb, 0, none⟩)) ∧ w'.cell? ⟨mb, 2, none⟩ = some (.int .i64 v0) ∧ w'.cell? ⟨w.heap.size, 1, none⟩ = some (.int .i64 a))) 13 (by kernel_rfl) (K0.out) (fun hHeld => ?_)
  refine E_take (i := 0) (oi := _) (v := ?_) rfl (by kernel_rfl) (fun _ _ _ h => h) ?_ (by assumption) ?_
  rotate_left 1
  · (refine Or.inl ⟨by rfl, ?_⟩; intro w hSw; (try dsimp only at hSw); (try simp only [List.getElem_toArray, List.getElem_cons_zero, List.getElem_cons_succ]); go_simp; (first | done | with_reducible rfl))
  try simp only [Act.put, List.setIfInBounds_toArray, List.set_cons_zero, List.set_cons_succ, List.getElem_toArray, List.getElem_cons_zero, List.getElem_cons_succ]
  refine E_take (i := 1) (oi := _) (v := ?_) rfl (by kernel_rfl) (fun _ _ _ h => h) ?_ (by assumption) ?_
  rotate_left 1
  · (refine Or.inl ⟨by rfl, ?_⟩; intro w hSw; (try dsimp only at hSw); (try simp only [List.getElem_toArray, List.getElem_cons_zero, List.getElem_cons_succ]); go_simp; (first | done | with_reducible rfl))
  try simp only [Act.put, List.setIfInBounds_toArray, List.set_cons_zero, List.set_cons_succ, List.getElem_toArray, List.getElem_cons_zero, List.getElem_cons_succ]
  refine E_take (i := 2) (oi := _) (v := ?_) rfl (by kernel_rfl) (fun _ _ _ h => h) ?_ (by assumption) ?_
  rotate_left 1
  · (refine Or.inl ⟨by rfl, ?_⟩; intro w hSw; (try dsimp only at hSw); (try simp only [List.getElem_toArray, List.getElem_cons_zero, List.getElem_cons_succ]); go_simp; (first | done | with_reducible rfl))
  try simp only [Act.put, List.setIfInBounds_toArray, List.set_cons_zero, List.set_cons_succ, List.getElem_toArray, List.getElem_cons_zero, List.getElem_cons_succ]
  refine E_take (i := 3) (oi := _) (v := ?_) rfl (by kernel_rfl) (fun _ _ _ h => h) ?_ (by assumption) ?_
  rotate_left 1
  · (refine Or.inl ⟨by rfl, ?_⟩; intro w hSw; (try dsimp only at hSw); (try simp only [List.getElem_toArray, List.getElem_cons_zero, List.getElem_cons_succ]); go_simp; (first | done | with_reducible rfl))
  try simp only [Act.put, List.setIfInBounds_toArray, List.set_cons_zero, List.set_cons_succ, List.getElem_toArray, List.getElem_cons_zero, List.getElem_cons_succ]
  refine E_take (i := 4) (oi := _) (v := ?_) rfl (by kernel_rfl) (fun _ _ _ h => h) ?_ (by assumption) ?_
  rotate_left 1
  · (refine Or.inl ⟨by rfl, ?_⟩; intro w hSw; (try dsimp only at hSw); (try simp only [List.getElem_toArray, List.getElem_cons_zero, List.getElem_cons_succ]); go_simp; (first | done | with_reducible rfl))
  try simp only [Act.put, List.setIfInBounds_toArray, List.set_cons_zero, List.set_cons_succ, List.getElem_toArray, List.getElem_cons_zero, List.getElem_cons_succ]
  refine E_take (i := 5) (oi := _) (v := ?_) rfl (by kernel_rfl) (fun _ _ _ h => h) ?_ (by assumption) ?_
  rotate_left 1
  · (refine Or.inl ⟨by rfl, ?_⟩; intro w hSw; (try dsimp only at hSw); (try simp only [List.getElem_toArray, List.getElem_cons_zero, List.getElem_cons_succ]); go_simp; (first | done | with_reducible rfl))
  try simp only [Act.put, List.setIfInBounds_toArray, List.set_cons_zero, List.set_cons_succ, List.getElem_toArray, List.getElem_cons_zero, List.getElem_cons_succ]
  refine E_take (i := 6) (oi := _) (v := ?_) rfl (by kernel_rfl) (fun _ _ _ h => h) ?_ (by assumption) ?_
  rotate_left 1
  · (refine Or.inl ⟨by rfl, ?_⟩; intro w hSw; (try dsimp only at hSw); (try simp only [List.getElem_toArray, List.getElem_cons_zero, List.getElem_cons_succ]); go_simp; (first | done | with_reducible rfl))
  try simp only [Act.put, List.setIfInBounds_toArray, List.set_cons_zero, List.set_cons_succ, List.getElem_toArray, List.getElem_cons_zero, List.getElem_cons_succ]
  refine E_take (i := 7) (oi := _) (v := ?_) rfl (by kernel_rfl) (fun _ _ _ h => h) ?_ (by assumption) ?_
  rotate_left 1
  · (refine Or.inl ⟨by rfl, ?_⟩; intro w hSw; (try dsimp only at hSw); (try simp only [List.getElem_toArray, List.getElem_cons_zero, List.getElem_cons_succ]); go_simp; (first | done | with_reducible rfl))
  try simp only [Act.put, List.setIfInBounds_toArray, List.set_cons_zero, List.set_cons_succ, List.getElem_toArray, List.getElem_cons_zero, List.getElem_cons_succ]
  refine E_take (i := 8) (oi := _) (v := ?_) rfl (by kernel_rfl) (fun _ _ _ h => h) ?_ (by assumption) ?_
  rotate_left 1
  · (refine Or.inl ⟨by rfl, ?_⟩; intro w hSw; (try dsimp only at hSw); (try simp only [List.getElem_toArray, List.getElem_cons_zero, List.getElem_cons_succ]); go_simp; (first | done | with_reducible rfl))
  try simp only [Act.put, List.setIfInBounds_toArray, List.set_cons_zero, List.set_cons_succ, List.getElem_toArray, List.getElem_cons_zero, List.getElem_cons_succ]
  refine E_take (i := 9) (oi := _) (v := ?_) rfl (by kernel_rfl) (fun _ _ _ h => h) ?_ (by assumption) ?_
  rotate_left 1
  · (refine Or.inl ⟨by rfl, ?_⟩; intro w hSw; (try dsimp only at hSw); (try simp only [List.getElem_toArray, List.getElem_cons_zero, List.getElem_cons_succ]); go_simp; (first | done | with_reducible rfl))
  try simp only [Act.put, List.setIfInBounds_toArray, List.set_cons_zero, List.set_cons_succ, List.getElem_toArray, List.getElem_cons_zero, List.getElem_cons_succ]
  refine E_take (i := 10) (oi := _) (v := ?_) rfl (by kernel_rfl) (fun _ _ _ h => h) ?_ (by assumption) ?_
  rotate_left 1
  · (refine Or.inl ⟨by rfl, ?_⟩; intro w hSw; (try dsimp only at hSw); (try simp only [List.getElem_toArray, List.getElem_cons_zero, List.getElem_cons_succ]); go_simp; (first | done | with_reducible rfl))
  try simp only [Act.put, List.setIfInBounds_toArray, List.set_cons_zero, List.set_cons_succ, List.getElem_toArray, List.getElem_cons_zero, List.getElem_cons_succ]
  refine E_take (i := 11) (oi := _) (v := ?_) rfl (by kernel_rfl) (fun _ _ _ h => h) ?_ (by assumption) ?_
  rotate_left 1
  · (refine Or.inl ⟨by rfl, ?_⟩; intro w hSw; (try dsimp only at hSw); (try simp only [List.getElem_toArray, List.getElem_cons_zero, List.getElem_cons_succ]); go_simp; (first | done | with_reducible rfl))
  try simp only [Act.put, List.setIfInBounds_toArray, List.set_cons_zero, List.set_cons_succ, List.getElem_toArray, List.getElem_cons_zero, List.getElem_cons_succ]
  refine E_ready (rs := [12]) (by kernel_rfl) (by decide) ?_
  refine AllE.cons (o := _) rfl (fun K hK => ?_) AllE.nil
  try simp only [List.getElem_toArray, List.getElem_cons_zero, List.getElem_cons_succ]
  go_simp
  refine (i_pop BD.out.mi).mono ?_
  rintro e w1 ⟨rfl, HC1, HS1⟩
  go_wp2_with fail
  have B1 := Lib.hid (BD.out.next H.out HC1.out HS1.out)
  have K1 : Hid (w1.cell? ⟨cb, 0, none⟩ = some (.pointer (some ⟨mb, 0, none⟩)) ∧ w1.cell? ⟨mb, 2, none⟩ = some (.int .i64 v0) ∧ w1.cell? ⟨w.heap.size, 1, none⟩ = some (.int .i64 a)) := Lib.hid ⟨B1.out.mi.cells.1, by have h := B1.out.mi.mc.cells.2.2.1; rw [pop_m] at h; dsimp only at h; rw [HV.out] at h; exact h, B1.out.b1⟩
  refine hK.out _ _ (K1.out) (fun hHeld => ?_)
  clear hK K
  try simp only [Act.put, List.setIfInBounds_toArray, List.set_cons_zero, List.set_cons_succ, List.getElem_toArray, List.getElem_cons_zero, List.getElem_cons_succ]
  refine E_last (o := _) (by kernel_rfl) rfl (by kernel_rfl) (fun K hK => ?_)
  try simp only [List.getElem_toArray, List.getElem_cons_zero, List.getElem_cons_succ]
  go_simp
  refine (i_storeM B1.out.mi q (popI s).1).mono ?_
  rintro e w2 ⟨rfl, HC2, HS2⟩
  go_wp2_with fail
  have B2 := Lib.hid (B1.out.next H.out HC2.out HS2.out)
  clear HC2 HS2
  refine hK.out _ _ ?_
  clear hK K
  go_wp2
  go_end0
  exact ⟨rfl, Lib.hid B2.out.mi, Lib.hid B2.out.al⟩
set_option maxRecDepth 100000 in
set_option maxHeartbeats 2000000 in
theorem i_storeStack (h : MiAt B cb mb w ev sv ov s) (c a : Int) : Calls Tryz.prog 79 #[.pointer (some ⟨cb, 0, none⟩), .agg #[.int .i64 c, .int .i64 a]] w (MiR B cb mb ev sv ov (.tuple #[]) (storeIM (popI s).2 (IntKind.i64.wrap (s.1.sp + a)) (popI s).1) w) := by
  have H := Lib.hid h
  have B0 := Lib.hid (h.bx c a)
  obtain ⟨v0, hv⟩ : ∃ x, s.1.sp = x := ⟨_, rfl⟩
  obtain ⟨q, hq⟩ : ∃ x, IntKind.i64.wrap (v0 + a) = x := ⟨_, rfl⟩
  rw [hv, hq]
  have K0 : Hid ((w.alloc (.cells #[.int .i64 c, .int .i64 a] 75)).cell? ⟨cb, 0, none⟩ = some (.pointer (some ⟨mb, 0, none⟩)) ∧ (w.alloc (.cells #[.int .i64 c, .int .i64 a] 75)).cell? ⟨mb, 1, none⟩ = some (.int .i64 v0) ∧ (w.alloc (.cells #[.int .i64 c, .int .i64 a] 75)).cell? ⟨w.heap.size, 1, none⟩ = some (.int .i64 a)) := Lib.hid ⟨B0.out.mi.cells.1, by rw [← hv]; exact B0.out.mi.mc.cells.2.1, B0.out.b1⟩
  have BD := Lib.hid (B0.out.drew H.out)
  clear hv
  clear h
  go_enter Tryz.func79, Tryz.ntmps79
  go_upto_region 1 with fail
  refine E_start (S := (fun w' => w'.cell? ⟨cb, 0, none⟩ = some (.pointer (some ⟨mb, 0, none⟩)) ∧ w'.cell? ⟨mb, 1, none⟩ = some (.int .i64 v0) ∧ w'.cell? ⟨w.heap.size, 1, none⟩ = some (.int .i64 a))) 10 (by kernel_rfl) (K0.out) (fun hHeld => ?_)
  refine E_take (i := 0) (oi := _) (v := ?_) rfl (by kernel_rfl) (fun _ _ _ h => h) ?_ (by assumption) ?_
  rotate_left 1
  · (refine Or.inl ⟨by rfl, ?_⟩; intro w hSw; (try dsimp only at hSw); (try simp only [List.getElem_toArray, List.getElem_cons_zero, List.getElem_cons_succ]); go_simp; (first | done | with_reducible rfl))
  try simp only [Act.put, List.setIfInBounds_toArray, List.set_cons_zero, List.set_cons_succ, List.getElem_toArray, List.getElem_cons_zero, List.getElem_cons_succ]
  refine E_take (i := 1) (oi := _) (v := ?_) rfl (by kernel_rfl) (fun _ _ _ h => h) ?_ (by assumption) ?_
  rotate_left 1
  · (refine Or.inl ⟨by rfl, ?_⟩; intro w hSw; (try dsimp only at hSw); (try simp only [List.getElem_toArray, List.getElem_cons_zero, List.getElem_cons_succ]); go_simp; (first | done | with_reducible rfl))
  try simp only [Act.put, List.setIfInBounds_toArray, List.set_cons_zero, List.set_cons_succ, List.getElem_toArray, List.getElem_cons_zero, List.getElem_cons_succ]
  refine E_take (i := 2) (oi := _) (v := ?_) rfl (by kernel_rfl) (fun _ _ _ h => h) ?_ (by assumption) ?_
  rotate_left 1
  · (refine Or.inl ⟨by rfl, ?_⟩; intro w hSw; (try dsimp only at hSw); (try simp only [List.getElem_toArray, List.getElem_cons_zero, List.getElem_cons_succ]); go_simp; (first | done | with_reducible rfl))
  try simp only [Act.put, List.setIfInBounds_toArray, List.set_cons_zero, List.set_cons_succ, List.getElem_toArray, List.getElem_cons_zero, List.getElem_cons_succ]
  refine E_take (i := 3) (oi := _) (v := ?_) rfl (by kernel_rfl) (fun _ _ _ h => h) ?_ (by assumption) ?_
  rotate_left 1
  · (refine Or.inl ⟨by rfl, ?_⟩; intro w hSw; (try dsimp only at hSw); (try simp only [List.getElem_toArray, List.getElem_cons_zero, List.getElem_cons_succ]); go_simp; (first | done | with_reducible rfl))
  try simp only [Act.put, List.setIfInBounds_toArray, List.set_cons_zero, List.set_cons_succ, List.getElem_toArray, List.getElem_cons_zero, List.getElem_cons_succ]
  refine E_take (i := 4) (oi := _) (v := ?_) rfl (by kernel_rfl) (fun _ _ _ h => h) ?_ (by assumption) ?_
  rotate_left 1
  · (refine Or.inl ⟨by rfl, ?_⟩; intro w hSw; (try dsimp only at hSw); (try simp only [List.getElem_toArray, List.getElem_cons_zero, List.getElem_cons_succ]); go_simp; (first | done | with_reducible rfl))
  try simp only [Act.put, List.setIfInBounds_toArray, List.set_cons_zero, List.set_cons_succ, List.getElem_toArray, List.getElem_cons_zero, List.getElem_cons_succ]
  refine E_take (i := 5) (oi := _) (v := ?_) rfl (by kernel_rfl) (fun _ _ _ h => h) ?_ (by assumption) ?_
  rotate_left 1
  · (refine Or.inl ⟨by rfl, ?_⟩; intro w hSw; (try dsimp only at hSw); (try simp only [List.getElem_toArray, List.getElem_cons_zero, List.getElem_cons_succ]); go_simp; (first | done | with_reducible rfl))
  try simp only [Act.put, List.setIfInBounds_toArray, List.set_cons_zero, List.set_cons_succ, List.getElem_toArray, List.getElem_cons_zero, List.getElem_cons_succ]
  refine E_take (i := 6) (oi := _) (v := ?_) rfl (by kernel_rfl) (fun _ _ _ h => h) ?_ (by assumption) ?_
  rotate_left 1
  · (refine Or.inl ⟨by rfl, ?_⟩; intro w hSw; (try dsimp only at hSw); (try simp only [List.getElem_toArray, List.getElem_cons_zero, List.getElem_cons_succ]); go_simp; (first | done | with_reducible rfl))
  try simp only [Act.put, List.setIfInBounds_toArray, List.set_cons_zero, List.set_cons_succ, List.getElem_toArray, List.getElem_cons_zero, List.getElem_cons_succ]
  refine E_take (i := 7) (oi := _) (v := ?_) rfl (by kernel_rfl) (fun _ _ _ h => h) ?_ (by assumption) ?_
  rotate_left 1
  · (refine Or.inl ⟨by rfl, ?_⟩; intro w hSw; (try dsimp only at hSw); (try simp only [List.getElem_toArray, List.getElem_cons_zero, List.getElem_cons_succ]); go_simp; (first | done | with_reducible rfl))
  try simp only [Act.put, List.setIfInBounds_toArray, List.set_cons_zero, List.set_cons_succ, List.getElem_toArray, List.getElem_cons_zero, List.getElem_cons_succ]
  refine E_take (i := 8) (oi := _) (v := ?_) rfl (by kernel_rfl) (fun _ _ _ h => h) ?_ (by assumption) ?_
  rotate_left 1
  · (refine Or.inl ⟨by rfl, ?_⟩; intro w hSw; (try dsimp only at hSw); (try simp only [List.getElem_toArray, List.getElem_cons_zero, List.getElem_cons_succ]); go_simp; (first | done | with_reducible rfl))
  try simp only [Act.put, List.setIfInBounds_toArray, List.set_cons_zero, List.set_cons_succ, List.getElem_toArray, List.getElem_cons_zero, List.getElem_cons_succ]
  refine E_take (i := 9) (oi := _) (v := ?_) rfl (by kernel_rfl) (fun _ _ _ h => h) ?_ (by assumption) ?_
  rotate_left 1
  · (refine Or.inl ⟨by rfl, ?_⟩; intro w hSw; (try dsimp only at hSw); (try simp only [List.getElem_toArray, List.getElem_cons_zero, List.getElem_cons_succ]); go_simp; (first | done | with_reducible rfl))
  try simp only [Act.put, List.setIfInBounds_toArray, List.set_cons_zero, List.set_cons_succ, List.getElem_toArray, List.getElem_cons_zero, List.getElem_cons_succ]
  refine E_last (o := _) (by kernel_rfl) rfl (by kernel_rfl) (fun K hK => ?_)
  try simp only [List.getElem_toArray, List.getElem_cons_zero, List.getElem_cons_succ]
  go_simp
  refine hK.out _ _ ?_
  clear hK K
  go_wp2_with fail
  refine (i_pop BD.out.mi).mono ?_
  rintro e w1 ⟨rfl, HC1, HS1⟩
  have B1 := Lib.hid (BD.out.next H.out HC1.out HS1.out)
  clear HC1 HS1
  go_wp2_with fail
  refine (i_storeM B1.out.mi q (popI s).1).mono ?_
  rintro e w2 ⟨rfl, HC2, HS2⟩
  have B2 := Lib.hid (B1.out.next H.out HC2.out HS2.out)
  clear HC2 HS2
  go_wp2
  go_end0
  exact ⟨rfl, Lib.hid B2.out.mi, Lib.hid B2.out.al⟩
set_option maxRecDepth 100000 in
set_option maxHeartbeats 2000000 in
theorem i_operator (h : MiAt B cb mb w ev sv ov s) (c a : Int) (hc : 0 ≤ c ∧ c ≤ 17) : Calls Tryz.prog 80 #[.pointer (some ⟨cb, 0, none⟩), .agg #[.int .i64 c, .int .i64 a]] w (MiR B cb mb ev sv ov (.tuple #[]) (pushI (popI (popI s).2).2 (appZ (c - 5 + 2) (popI (popI s).2).1 (popI s).1)) w) := by
  have H := Lib.hid h
  have B0 := Lib.hid (h.bx c a)
  have u1 : IntKind.i64.wrap (c - 5) = c - 5 := IntWalk.i64_in _ (by omega)
  have u2 : IntKind.i64.wrap (c - 5 + 2) = c - 5 + 2 := IntWalk.i64_in _ (by omega)
  clear h
  go_enter Tryz.func80, Tryz.ntmps80
  go_wp2_with fail
  refine (i_pop B0.out.mi).mono ?_
  rintro e w1 ⟨rfl, HC1, HS1⟩
  have B1 := Lib.hid (B0.out.next H.out HC1.out HS1.out)
  clear HC1 HS1
  go_wp2_with fail
  refine (i_pop B1.out.mi).mono ?_
  rintro e w2 ⟨rfl, HC2, HS2⟩
  have B2 := Lib.hid (B1.out.next H.out HC2.out HS2.out)
  clear HC2 HS2
  have b0 := B2.out.b0
  go_wp2_with fail
  refine (i_apply (c - 5 + 2) (popI (popI s).2).1 (popI s).1 _).mono ?_
  rintro e wx ⟨rfl, rfl⟩
  go_wp2_with fail
  refine (i_push B2.out.mi (appZ (c - 5 + 2) (popI (popI s).2).1 (popI s).1)).mono ?_
  rintro e w3 ⟨rfl, HC3, HS3⟩
  have B3 := Lib.hid (B2.out.next H.out HC3.out HS3.out)
  clear HC3 HS3
  go_wp2
  go_end0
  exact ⟨rfl, Lib.hid B3.out.mi, Lib.hid B3.out.al⟩
end
end Go.Proofs.YtakgjlpgcepnkaaGreat
