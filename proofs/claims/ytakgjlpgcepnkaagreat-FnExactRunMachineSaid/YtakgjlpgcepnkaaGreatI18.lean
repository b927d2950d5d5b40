/- The program's instructions: what performs them. -/
import Derived.Test.YtakgjlpgcepnkaaGreatI17
import Derived.Test.YtakgjlpgcepnkaaGreatI02
import Derived.Deep.Cut
namespace Go.Proofs.YtakgjlpgcepnkaaGreat
open Go.RowKit Go.Lib

section
variable {B cb mb : Nat} {w : World} {ev sv ov : Value} {s : McS}
set_option maxRecDepth 100000 in
set_option maxHeartbeats 2000000 in
theorem i_jump (h : MiAt B cb mb w ev sv ov s) (c a : Int) : Calls Tryz.prog 81 #[.pointer (some ⟨cb, 0, none⟩), .agg #[.int .i64 c, .int .i64 a]] w (MiR B cb mb ev sv ov (.tuple #[]) (({ s.1 with pc := IntKind.i64.wrap (s.1.pc + a) }, s.2)) w) := by
  have H := Lib.hid h
  have B0 := Lib.hid (h.bx c a)
  obtain ⟨v0, hv⟩ : ∃ x, s.1.pc = x := ⟨_, rfl⟩
  obtain ⟨q, hq⟩ : ∃ x, IntKind.i64.wrap (v0 + a) = x := ⟨_, rfl⟩
  rw [hv, hq]
  have K0 : Hid ((w.alloc (.cells #[.int .i64 c, .int .i64 a] 75)).cell? ⟨cb, 0, none⟩ = some (.pointer (some ⟨mb, 0, none⟩)) ∧ (w.alloc (.cells #[.int .i64 c, .int .i64 a] 75)).cell? ⟨mb, 0, none⟩ = some (.int .i64 v0) ∧ (w.alloc (.cells #[.int .i64 c, .int .i64 a] 75)).cell? ⟨w.heap.size, 1, none⟩ = some (.int .i64 a)) := Lib.hid ⟨B0.out.mi.cells.1, by rw [← hv]; exact B0.out.mi.mc.cells.1, B0.out.b1⟩
  have BD := Lib.hid (B0.out.drew H.out)
  obtain ⟨m0, _, _, _, _, _, _, gm⟩ := B0.out.mi.mc.cells
  have hlt := B0.out.mi.mc.lt
  have HP := Lib.hid (B0.out.mi.setPc q)
  rw [hv] at m0
  clear hv
  clear h
  go_enter Tryz.func81, Tryz.ntmps81
  go_upto_region 1 with fail
  refine E_start (S := (fun w' => w'.cell? ⟨cb, 0, none⟩ = some (.pointer (some ⟨mb, 0, none⟩)) ∧ w'.cell? ⟨mb, 0, none⟩ = some (.int .i64 v0) ∧ w'.cell? ⟨w.heap.size, 1, none⟩ = some (.int .i64 a))) 12 (by kernel_rfl) (K0.out) (fun hHeld => ?_)
  refine E_take (i := 0) (oi := _) (v := ?_) rfl (by kernel_rfl) (fun _ _ _ h => h) ?_ (by assumption) ?_
  rotate_left 1
  · (refine Or.inl ⟨by rfl, ?_⟩; intro w hSw; (try dsimp only at hSw); (try simp only [List.getElem_toArray, List.getElem_cons_zero, List.getElem_cons_succ]); go_simp; (first | done | with_reducible rfl))
  try simp only [Act.put, List.setIfInBounds_toArray, List.set_cons_zero, List.set_cons_succ, List.getElem_toArray, List.getElem_cons_zero, List.getElem_cons_succ]
  refine E_take (i := 1) (oi := _) (v := ?_) rfl (by kernel_rfl) (fun _ _ _ h => h) ?_ (by assumption) ?_
  rotate_left 1
  · (refine Or.inl ⟨by rfl, ?_⟩; intro w hSw; (try dsimp only at hSw); (try simp only [List.getElem_toArray, List.getElem_cons_zero, List.getElem_cons_succ]); go_simp; (first | done | with_reducible rfl))
  try simp only [Act.put, List.setIfInBounds_toArray, List.set_cons_zero, List.set_cons_succ, List.getElem_toArray, List.getElem_cons_zero, List.getElem_cons_succ]
  refine E_take (i := 2) (oi := _) (v := ?_) rfl (by kernel_rfl) (fun _ _ _ h => h) ?_ (by assumption) ?_
  rotate_left 1
  · (refine Or.inl ⟨by rfl, ?_⟩; intro w hSw; (try dsimp only at hSw); (try simp only [List.getElem_toArray, List.getElem_cons_zero, List.getElem_cons_succ]); go_simp; (first | done | with_reducible rfl))
  try simp only [Act.put, List.setIfInBounds_toArray, List.set_cons_zero, List.set_cons_succ, List.getElem_toArray, List.getElem_cons_zero, List.getElem_cons_succ]
  refine E_take (i := 3) (oi := _) (v := ?_) rfl (by kernel_rfl) (fun _ _ _ h => h) ?_ (by assumption) ?_
  rotate_left 1
  · (refine Or.inl ⟨by rfl, ?_⟩; intro w hSw; (try dsimp only at hSw); (try simp only [List.getElem_toArray, List.getElem_cons_zero, List.getElem_cons_succ]); go_simp; (first | done | with_reducible rfl))
  try simp only [Act.put, List.setIfInBounds_toArray, List.set_cons_zero, List.set_cons_succ, List.getElem_toArray, List.getElem_cons_zero, List.getElem_cons_succ]
  refine E_take (i := 4) (oi := _) (v := ?_) rfl (by kernel_rfl) (fun _ _ _ h => h) ?_ (by assumption) ?_
  rotate_left 1
  · (refine Or.inl ⟨by rfl, ?_⟩; intro w hSw; (try dsimp only at hSw); (try simp only [List.getElem_toArray, List.getElem_cons_zero, List.getElem_cons_succ]); go_simp; (first | done | with_reducible rfl))
  try simp only [Act.put, List.setIfInBounds_toArray, List.set_cons_zero, List.set_cons_succ, List.getElem_toArray, List.getElem_cons_zero, List.getElem_cons_succ]
  refine E_take (i := 5) (oi := _) (v := ?_) rfl (by kernel_rfl) (fun _ _ _ h => h) ?_ (by assumption) ?_
  rotate_left 1
  · (refine Or.inl ⟨by rfl, ?_⟩; intro w hSw; (try dsimp only at hSw); (try simp only [List.getElem_toArray, List.getElem_cons_zero, List.getElem_cons_succ]); go_simp; (first | done | with_reducible rfl))
  try simp only [Act.put, List.setIfInBounds_toArray, List.set_cons_zero, List.set_cons_succ, List.getElem_toArray, List.getElem_cons_zero, List.getElem_cons_succ]
  refine E_take (i := 6) (oi := _) (v := ?_) rfl (by kernel_rfl) (fun _ _ _ h => h) ?_ (by assumption) ?_
  rotate_left 1
  · (refine Or.inl ⟨by rfl, ?_⟩; intro w hSw; (try dsimp only at hSw); (try simp only [List.getElem_toArray, List.getElem_cons_zero, List.getElem_cons_succ]); go_simp; (first | done | with_reducible rfl))
  try simp only [Act.put, List.setIfInBounds_toArray, List.set_cons_zero, List.set_cons_succ, List.getElem_toArray, List.getElem_cons_zero, List.getElem_cons_succ]
  refine E_take (i := 7) (oi := _) (v := ?_) rfl (by kernel_rfl) (fun _ _ _ h => h) ?_ (by assumption) ?_
  rotate_left 1
  · (refine Or.inl ⟨by rfl, ?_⟩; intro w hSw; (try dsimp only at hSw); (try simp only [List.getElem_toArray, List.getElem_cons_zero, List.getElem_cons_succ]); go_simp; (first | done | with_reducible rfl))
  try simp only [Act.put, List.setIfInBounds_toArray, List.set_cons_zero, List.set_cons_succ, List.getElem_toArray, List.getElem_cons_zero, List.getElem_cons_succ]
  refine E_take (i := 8) (oi := _) (v := ?_) rfl (by kernel_rfl) (fun _ _ _ h => h) ?_ (by assumption) ?_
  rotate_left 1
  · (refine Or.inl ⟨by rfl, ?_⟩; intro w hSw; (try dsimp only at hSw); (try simp only [List.getElem_toArray, List.getElem_cons_zero, List.getElem_cons_succ]); go_simp; (first | done | with_reducible rfl))
  try simp only [Act.put, List.setIfInBounds_toArray, List.set_cons_zero, List.set_cons_succ, List.getElem_toArray, List.getElem_cons_zero, List.getElem_cons_succ]
  refine E_take (i := 9) (oi := _) (v := ?_) rfl (by kernel_rfl) (fun _ _ _ h => h) ?_ (by assumption) ?_
  rotate_left 1
  · (refine Or.inl ⟨by rfl, ?_⟩; intro w hSw; (try dsimp only at hSw); (try simp only [List.getElem_toArray, List.getElem_cons_zero, List.getElem_cons_succ]); go_simp; (first | done | with_reducible rfl))
  try simp only [Act.put, List.setIfInBounds_toArray, List.set_cons_zero, List.set_cons_succ, List.getElem_toArray, List.getElem_cons_zero, List.getElem_cons_succ]
  refine E_take (i := 10) (oi := _) (v := ?_) rfl (by kernel_rfl) (fun _ _ _ h => h) ?_ (by assumption) ?_
  rotate_left 1
  · (refine Or.inl ⟨by rfl, ?_⟩; intro w hSw; (try dsimp only at hSw); (try simp only [List.getElem_toArray, List.getElem_cons_zero, List.getElem_cons_succ]); go_simp; (first | done | with_reducible rfl))
  try simp only [Act.put, List.setIfInBounds_toArray, List.set_cons_zero, List.set_cons_succ, List.getElem_toArray, List.getElem_cons_zero, List.getElem_cons_succ]
  refine E_take (i := 11) (oi := _) (v := ?_) rfl (by kernel_rfl) (fun _ _ _ h => h) ?_ (by assumption) ?_
  rotate_left 1
  · (refine Or.inl ⟨by rfl, ?_⟩; intro w hSw; (try dsimp only at hSw); (try simp only [List.getElem_toArray, List.getElem_cons_zero, List.getElem_cons_succ]); go_simp; (first | done | with_reducible rfl))
  try simp only [Act.put, List.setIfInBounds_toArray, List.set_cons_zero, List.set_cons_succ, List.getElem_toArray, List.getElem_cons_zero, List.getElem_cons_succ]
  refine E_last (o := _) (by kernel_rfl) rfl (by kernel_rfl) (fun K hK => ?_)
  try simp only [List.getElem_toArray, List.getElem_cons_zero, List.getElem_cons_succ]
  go_simp
  refine hK.out _ _ ?_
  clear hK K
  have B1 := Lib.hid (B0.out.next H.out HP.out.1 HP.out.2)
  have B2 := Lib.hid (B1.out.drew H.out)
  go_wp2
  go_end0
  exact ⟨rfl, Lib.hid B2.out.mi, Lib.hid B2.out.al⟩
set_option maxRecDepth 100000 in
set_option maxHeartbeats 2000000 in
theorem i_jumpIfZero (h : MiAt B cb mb w ev sv ov s) (c a : Int) : Calls Tryz.prog 82 #[.pointer (some ⟨cb, 0, none⟩), .agg #[.int .i64 c, .int .i64 a]] w (MiR B cb mb ev sv ov (.tuple #[]) (if (popI s).1 = 0 then ({ (popI s).2.1 with pc := IntKind.i64.wrap ((popI s).2.1.pc + a) }, (popI s).2.2) else (popI s).2) w) := by
  have H := Lib.hid h
  have B0 := Lib.hid (h.bx c a)
  have B1' := Lib.hid (fun (w1 : World) HC HS => (B0.out.next H.out (W' := w1) (s' := (popI s).2) HC HS))
  by_cases hz : (popI s).1 = 0
  · rw [if_pos hz]
    have P := Lib.hid (i_pop B0.out.mi)
    rw [hz] at P
    clear hz
    clear h
    go_enter Tryz.func82, Tryz.ntmps82
    go_wp2_with fail
    refine P.out.mono ?_
    rintro e w1 ⟨rfl, HC1, HS1⟩
    have B1 := Lib.hid (B1'.out w1 HC1.out HS1.out)
    have b0 := B1.out.b0
    have b1 := B1.out.b1
    go_wp2_with fail
    refine (i_jump B1.out.mi c a).mono ?_
    rintro e w2 ⟨rfl, HC2, HS2⟩
    go_wp2
    go_end0
    exact ⟨rfl, HC2, Lib.hid (B1.out.al.trans HS2.out)⟩
  · rw [if_neg hz]
    obtain ⟨p, hp⟩ : ∃ x, (popI s).1 = x := ⟨_, rfl⟩
    have P := Lib.hid (i_pop B0.out.mi)
    rw [hp] at P hz
    have d0 : (p == 0) = false := by simpa using hz
    clear hz hp
    clear h
    go_enter Tryz.func82, Tryz.ntmps82
    go_wp2_with fail
    refine P.out.mono ?_
    rintro e w1 ⟨rfl, HC1, HS1⟩
    have B1 := Lib.hid (B1'.out w1 HC1.out HS1.out)
    go_wp2
    go_end0
    exact ⟨rfl, HC1, Lib.hid B1.out.al⟩
set_option maxRecDepth 100000 in
set_option maxHeartbeats 2000000 in
theorem i_spaceI (h : MiAt B cb mb w ev sv ov s) (c a : Int) (ha : 0 ≤ a ∧ a ≤ 70000) : Calls Tryz.prog 86 #[.pointer (some ⟨cb, 0, none⟩), .agg #[.int .i64 c, .int .i64 a]] w (MiR B cb mb ev sv ov (.tuple #[]) (zerosI' a.toNat (needI s a)) w) := by
  have H := Lib.hid h
  have B0 := Lib.hid (h.bx c a)
  obtain ⟨n, rfl⟩ : ∃ n : Nat, a = (n : Int) := ⟨a.toNat, (Int.toNat_of_nonneg ha.1).symm⟩
  rw [Int.toNat_natCast]
  have b1 := B0.out.b1
  clear h
  go_enter Tryz.func86, Tryz.ntmps86
  go_wp2_with fail
  refine (i_needsRoom B0.out.mi (n : Int)).mono ?_
  rintro e w1 ⟨rfl, HC1, HS1⟩
  have B1 := Lib.hid (B0.out.next H.out HC1.out HS1.out)
  clear HC1 HS1
  have b1 := B1.out.b1
  go_wp2_with fail
  refine (i_pushZeros B1.out.mi n (by omega)).mono ?_
  rintro e w2 ⟨rfl, HC2, HS2⟩
  have B2 := Lib.hid (B1.out.next H.out HC2.out HS2.out)
  clear HC2 HS2
  go_wp2
  go_end0
  exact ⟨rfl, Lib.hid B2.out.mi, Lib.hid B2.out.al⟩
set_option maxRecDepth 100000 in
set_option maxHeartbeats 2000000 in
theorem i_enter (h : MiAt B cb mb w ev sv ov s) (c a : Int) (ha : 0 ≤ a ∧ a ≤ 70000) : Calls Tryz.prog 84 #[.pointer (some ⟨cb, 0, none⟩), .agg #[.int .i64 c, .int .i64 a]] w (MiR B cb mb ev sv ov (.tuple #[]) (zerosI' a.toNat ({ (pushI (needI s (1 + a)) s.1.fp).1 with fp := (pushI (needI s (1 + a)) s.1.fp).1.sp }, (pushI (needI s (1 + a)) s.1.fp).2)) w) := by
  have H := Lib.hid h
  have B0 := Lib.hid (h.bx c a)
  obtain ⟨n, rfl⟩ : ∃ n : Nat, a = (n : Int) := ⟨a.toNat, (Int.toNat_of_nonneg ha.1).symm⟩
  rw [Int.toNat_natCast]
  have b1 := B0.out.b1
  have u1 : IntKind.i64.wrap (1 + (n : Int)) = 1 + (n : Int) := IntWalk.i64_in _ (by omega)
  obtain ⟨v0, hv⟩ : ∃ x, s.1.fp = x := ⟨_, rfl⟩
  rw [hv]
  have HV := Lib.hid hv
  clear hv
  clear h
  go_enter Tryz.func84, Tryz.ntmps84
  go_wp2_with fail
  refine (i_needsRoom B0.out.mi (1 + (n : Int))).mono ?_
  rintro e w1 ⟨rfl, HC1, HS1⟩
  have B1 := Lib.hid (B0.out.next H.out HC1.out HS1.out)
  clear HC1 HS1
  have e0 := B1.out.mi.cells.1
  have m2 : w1.cell? ⟨mb, 2, none⟩ = some (.int .i64 v0) := by rw [← HV.out]; exact B1.out.mi.mc.cells.2.2.1
  go_wp2_with fail
  refine (i_push B1.out.mi v0).mono ?_
  rintro e w2 ⟨rfl, HC2, HS2⟩
  have B2 := Lib.hid (B1.out.next H.out HC2.out HS2.out)
  clear HC2 HS2
  obtain ⟨v1, hv1⟩ : ∃ x, (pushI (needI s (1 + (n : Int))) v0).1.sp = x := ⟨_, rfl⟩
  have K0 : Hid (w2.cell? ⟨cb, 0, none⟩ = some (.pointer (some ⟨mb, 0, none⟩)) ∧ w2.cell? ⟨mb, 1, none⟩ = some (.int .i64 v1)) := Lib.hid ⟨B2.out.mi.cells.1, by rw [← hv1]; exact B2.out.mi.mc.cells.2.1⟩
  have HV1 := Lib.hid hv1
  have HP := Lib.hid (B2.out.mi.setFp v1)
  have B3 := Lib.hid (B2.out.next H.out HP.out.1 HP.out.2)
  have B4 := Lib.hid (B3.out.drew H.out)
  obtain ⟨_, _, m2', _, _, _, _, gm⟩ := B2.out.mi.mc.cells
  have hlt := B2.out.mi.mc.lt
  clear hv1 e0 m2 b1
  go_upto_region 3 with fail
  refine E_start (S := (fun w' => w'.cell? ⟨cb, 0, none⟩ = some (.pointer (some ⟨mb, 0, none⟩)) ∧ w'.cell? ⟨mb, 1, none⟩ = some (.int .i64 v1))) 13 (by kernel_rfl) (K0.out) (fun hHeld => ?_)
  refine E_take (i := 0) (oi := _) (v := ?_) rfl (by kernel_rfl) (fun _ _ _ h => h) ?_ (by assumption) ?_
  rotate_left 1
  · (refine Or.inl ⟨by rfl, ?_⟩; intro w hSw; (try dsimp only at hSw); (try simp only [List.getElem_toArray, List.getElem_cons_zero, List.getElem_cons_succ]); go_simp; (first | done | with_reducible rfl))
  try simp only [Act.put, List.setIfInBounds_toArray, List.set_cons_zero, List.set_cons_succ, List.getElem_toArray, List.getElem_cons_zero, List.getElem_cons_succ]
  refine E_take (i := 1) (oi := _) (v := ?_) rfl (by kernel_rfl) (fun _ _ _ h => h) ?_ (by assumption) ?_
  rotate_left 1
  · (refine Or.inl ⟨by rfl, ?_⟩; intro w hSw; (try dsimp only at hSw); (try simp only [List.getElem_toArray, List.getElem_cons_zero, List.getElem_cons_succ]); go_simp; (first | done | with_reducible rfl))
  try simp only [Act.put, List.setIfInBounds_toArray, List.set_cons_zero, List.set_cons_succ, List.getElem_toArray, List.getElem_cons_zero, List.getElem_cons_succ]
  refine E_take (i := 2) (oi := _) (v := ?_) rfl (by kernel_rfl) (fun _ _ _ h => h) ?_ (by assumption) ?_
  rotate_left 1
  · (refine Or.inl ⟨by rfl, ?_⟩; intro w hSw; (try dsimp only at hSw); (try simp only [List.getElem_toArray, List.getElem_cons_zero, List.getElem_cons_succ]); go_simp; (first | done | with_reducible rfl))
  try simp only [Act.put, List.setIfInBounds_toArray, List.set_cons_zero, List.set_cons_succ, List.getElem_toArray, List.getElem_cons_zero, List.getElem_cons_succ]
  refine E_take (i := 3) (oi := _) (v := ?_) rfl (by kernel_rfl) (fun _ _ _ h => h) ?_ (by assumption) ?_
  rotate_left 1
  · (refine Or.inl ⟨by rfl, ?_⟩; intro w hSw; (try dsimp only at hSw); (try simp only [List.getElem_toArray, List.getElem_cons_zero, List.getElem_cons_succ]); go_simp; (first | done | with_reducible rfl))
  try simp only [Act.put, List.setIfInBounds_toArray, List.set_cons_zero, List.set_cons_succ, List.getElem_toArray, List.getElem_cons_zero, List.getElem_cons_succ]
  refine E_take (i := 4) (oi := _) (v := ?_) rfl (by kernel_rfl) (fun _ _ _ h => h) ?_ (by assumption) ?_
  rotate_left 1
  · (refine Or.inl ⟨by rfl, ?_⟩; intro w hSw; (try dsimp only at hSw); (try simp only [List.getElem_toArray, List.getElem_cons_zero, List.getElem_cons_succ]); go_simp; (first | done | with_reducible rfl))
  try simp only [Act.put, List.setIfInBounds_toArray, List.set_cons_zero, List.set_cons_succ, List.getElem_toArray, List.getElem_cons_zero, List.getElem_cons_succ]
  refine E_take (i := 5) (oi := _) (v := ?_) rfl (by kernel_rfl) (fun _ _ _ h => h) ?_ (by assumption) ?_
  rotate_left 1
  · (refine Or.inl ⟨by rfl, ?_⟩; intro w hSw; (try dsimp only at hSw); (try simp only [List.getElem_toArray, List.getElem_cons_zero, List.getElem_cons_succ]); go_simp; (first | done | with_reducible rfl))
  try simp only [Act.put, List.setIfInBounds_toArray, List.set_cons_zero, List.set_cons_succ, List.getElem_toArray, List.getElem_cons_zero, List.getElem_cons_succ]
  refine E_take (i := 6) (oi := _) (v := ?_) rfl (by kernel_rfl) (fun _ _ _ h => h) ?_ (by assumption) ?_
  rotate_left 1
  · (refine Or.inl ⟨by rfl, ?_⟩; intro w hSw; (try dsimp only at hSw); (try simp only [List.getElem_toArray, List.getElem_cons_zero, List.getElem_cons_succ]); go_simp; (first | done | with_reducible rfl))
  try simp only [Act.put, List.setIfInBounds_toArray, List.set_cons_zero, List.set_cons_succ, List.getElem_toArray, List.getElem_cons_zero, List.getElem_cons_succ]
  refine E_take (i := 7) (oi := _) (v := ?_) rfl (by kernel_rfl) (fun _ _ _ h => h) ?_ (by assumption) ?_
  rotate_left 1
  · (refine Or.inl ⟨by rfl, ?_⟩; intro w hSw; (try dsimp only at hSw); (try simp only [List.getElem_toArray, List.getElem_cons_zero, List.getElem_cons_succ]); go_simp; (first | done | with_reducible rfl))
  try simp only [Act.put, List.setIfInBounds_toArray, List.set_cons_zero, List.set_cons_succ, List.getElem_toArray, List.getElem_cons_zero, List.getElem_cons_succ]
  refine E_take (i := 8) (oi := _) (v := ?_) rfl (by kernel_rfl) (fun _ _ _ h => h) ?_ (by assumption) ?_
  rotate_left 1
  · (refine Or.inl ⟨by rfl, ?_⟩; intro w hSw; (try dsimp only at hSw); (try simp only [List.getElem_toArray, List.getElem_cons_zero, List.getElem_cons_succ]); go_simp; (first | done | with_reducible rfl))
  try simp only [Act.put, List.setIfInBounds_toArray, List.set_cons_zero, List.set_cons_succ, List.getElem_toArray, List.getElem_cons_zero, List.getElem_cons_succ]
  refine E_take (i := 9) (oi := _) (v := ?_) rfl (by kernel_rfl) (fun _ _ _ h => h) ?_ (by assumption) ?_
  rotate_left 1
  · (refine Or.inl ⟨by rfl, ?_⟩; intro w hSw; (try dsimp only at hSw); (try simp only [List.getElem_toArray, List.getElem_cons_zero, List.getElem_cons_succ]); go_simp; (first | done | with_reducible rfl))
  try simp only [Act.put, List.setIfInBounds_toArray, List.set_cons_zero, List.set_cons_succ, List.getElem_toArray, List.getElem_cons_zero, List.getElem_cons_succ]
  refine E_take (i := 10) (oi := _) (v := ?_) rfl (by kernel_rfl) (fun _ _ _ h => h) ?_ (by assumption) ?_
  rotate_left 1
  · (refine Or.inl ⟨by rfl, ?_⟩; intro w hSw; (try dsimp only at hSw); (try simp only [List.getElem_toArray, List.getElem_cons_zero, List.getElem_cons_succ]); go_simp; (first | done | with_reducible rfl))
  try simp only [Act.put, List.setIfInBounds_toArray, List.set_cons_zero, List.set_cons_succ, List.getElem_toArray, List.getElem_cons_zero, List.getElem_cons_succ]
  refine E_take (i := 11) (oi := _) (v := ?_) rfl (by kernel_rfl) (fun _ _ _ h => h) ?_ (by assumption) ?_
  rotate_left 1
  · (refine Or.inl ⟨by rfl, ?_⟩; intro w hSw; (try dsimp only at hSw); (try simp only [List.getElem_toArray, List.getElem_cons_zero, List.getElem_cons_succ]); go_simp; (first | done | with_reducible rfl))
  try simp only [Act.put, List.setIfInBounds_toArray, List.set_cons_zero, List.set_cons_succ, List.getElem_toArray, List.getElem_cons_zero, List.getElem_cons_succ]
  refine E_take (i := 12) (oi := _) (v := ?_) rfl (by kernel_rfl) (fun _ _ _ h => h) ?_ (by assumption) ?_
  rotate_left 1
  · (refine Or.inl ⟨by rfl, ?_⟩; intro w hSw; (try dsimp only at hSw); (try simp only [List.getElem_toArray, List.getElem_cons_zero, List.getElem_cons_succ]); go_simp; (first | done | with_reducible rfl))
  try simp only [Act.put, List.setIfInBounds_toArray, List.set_cons_zero, List.set_cons_succ, List.getElem_toArray, List.getElem_cons_zero, List.getElem_cons_succ]
  refine E_last (o := _) (by kernel_rfl) rfl (by kernel_rfl) (fun K hK => ?_)
  try simp only [List.getElem_toArray, List.getElem_cons_zero, List.getElem_cons_succ]
  go_simp
  refine hK.out _ _ ?_
  clear hK K
  have b1 := B4.out.b1
  go_wp2_with fail
  refine (i_pushZeros B4.out.mi n (by omega)).mono ?_
  rintro e w5 ⟨rfl, HC5, HS5⟩
  have B5 := Lib.hid (B4.out.next H.out HC5.out HS5.out)
  clear HC5 HS5
  go_wp2
  go_end0
  refine ⟨rfl, Lib.hid ?_, Lib.hid B5.out.al⟩
  have h := B5.out.mi
  rw [← HV1.out] at h
  exact h
set_option maxRecDepth 100000 in
set_option maxHeartbeats 2000000 in
theorem i_leave (h : MiAt B cb mb w ev sv ov s) (c a : Int) (ha : 0 ≤ a ∧ a ≤ 70000) : Calls Tryz.prog 85 #[.pointer (some ⟨cb, 0, none⟩), .agg #[.int .i64 c, .int .i64 a]] w (MiR B cb mb ev sv ov (.tuple #[]) (perfI.leaveM a.toNat (popI s).1 (popI s).2) w) := by
  have H := Lib.hid h
  have B0 := Lib.hid (h.bx c a)
  obtain ⟨n, rfl⟩ : ∃ n : Nat, a = (n : Int) := ⟨a.toNat, (Int.toNat_of_nonneg ha.1).symm⟩
  rw [Int.toNat_natCast]
  unfold perfI.leaveM
  dsimp only
  clear h
  go_enter Tryz.func85, Tryz.ntmps85
  go_wp2_with fail
  refine (i_pop B0.out.mi).mono ?_
  rintro e w1 ⟨rfl, HC1, HS1⟩
  have B1 := Lib.hid (B0.out.next H.out HC1.out HS1.out)
  clear HC1 HS1
  obtain ⟨v, hv⟩ : ∃ x, (popI s).1 = x := ⟨_, rfl⟩
  obtain ⟨s1, hs1⟩ : ∃ x, (popI s).2 = x := ⟨_, rfl⟩
  have HV := Lib.hid hv
  have HS1 := Lib.hid hs1
  rw [hv]
  rw [hs1] at B1
  clear hv hs1
  obtain ⟨v1, hv1⟩ : ∃ x, s1.1.fp = x := ⟨_, rfl⟩
  have K0 : Hid (w1.cell? ⟨cb, 0, none⟩ = some (.pointer (some ⟨mb, 0, none⟩)) ∧ w1.cell? ⟨mb, 2, none⟩ = some (.int .i64 v1)) := Lib.hid ⟨B1.out.mi.cells.1, by rw [← hv1]; exact B1.out.mi.mc.cells.2.2.1⟩
  have HV1 := Lib.hid hv1
  have HP := Lib.hid (B1.out.mi.setSp v1)
  have B2' := Lib.hid (B1.out.next H.out HP.out.1 HP.out.2)
  have B2 := Lib.hid (B2'.out.drew H.out)
  obtain ⟨_, m1', _, _, _, _, _, gm⟩ := B1.out.mi.mc.cells
  have hlt := B1.out.mi.mc.lt
  clear hv1
  go_upto_region 2 with fail
  refine E_start (S := (fun w' => w'.cell? ⟨cb, 0, none⟩ = some (.pointer (some ⟨mb, 0, none⟩)) ∧ w'.cell? ⟨mb, 2, none⟩ = some (.int .i64 v1))) 13 (by kernel_rfl) (K0.out) (fun hHeld => ?_)
  refine E_take (i := 0) (oi := _) (v := ?_) rfl (by kernel_rfl) (fun _ _ _ h => h) ?_ (by assumption) ?_
  rotate_left 1
  · (refine Or.inl ⟨by rfl, ?_⟩; intro w hSw; (try dsimp only at hSw); (try simp only [List.getElem_toArray, List.getElem_cons_zero, List.getElem_cons_succ]); go_simp; (first | done | with_reducible rfl))
  try simp only [Act.put, List.setIfInBounds_toArray, List.set_cons_zero, List.set_cons_succ, List.getElem_toArray, List.getElem_cons_zero, List.getElem_cons_succ]
  refine E_take (i := 1) (oi := _) (v := ?_) rfl (by kernel_rfl) (fun _ _ _ h => h) ?_ (by assumption) ?_
  rotate_left 1
  · (refine Or.inl ⟨by rfl, ?_⟩; intro w hSw; (try dsimp only at hSw); (try simp only [List.getElem_toArray, List.getElem_cons_zero, List.getElem_cons_succ]); go_simp; (first | done | with_reducible rfl))
  try simp only [Act.put, List.setIfInBounds_toArray, List.set_cons_zero, List.set_cons_succ, List.getElem_toArray, List.getElem_cons_zero, List.getElem_cons_succ]
  refine E_take (i := 2) (oi := _) (v := ?_) rfl (by kernel_rfl) (fun _ _ _ h => h) ?_ (by assumption) ?_
  rotate_left 1
  · (refine Or.inl ⟨by rfl, ?_⟩; intro w hSw; (try dsimp only at hSw); (try simp only [List.getElem_toArray, List.getElem_cons_zero, List.getElem_cons_succ]); go_simp; (first | done | with_reducible rfl))
  try simp only [Act.put, List.setIfInBounds_toArray, List.set_cons_zero, List.set_cons_succ, List.getElem_toArray, List.getElem_cons_zero, List.getElem_cons_succ]
  refine E_take (i := 3) (oi := _) (v := ?_) rfl (by kernel_rfl) (fun _ _ _ h => h) ?_ (by assumption) ?_
  rotate_left 1
  · (refine Or.inl ⟨by rfl, ?_⟩; intro w hSw; (try dsimp only at hSw); (try simp only [List.getElem_toArray, List.getElem_cons_zero, List.getElem_cons_succ]); go_simp; (first | done | with_reducible rfl))
  try simp only [Act.put, List.setIfInBounds_toArray, List.set_cons_zero, List.set_cons_succ, List.getElem_toArray, List.getElem_cons_zero, List.getElem_cons_succ]
  refine E_take (i := 4) (oi := _) (v := ?_) rfl (by kernel_rfl) (fun _ _ _ h => h) ?_ (by assumption) ?_
  rotate_left 1
  · (refine Or.inl ⟨by rfl, ?_⟩; intro w hSw; (try dsimp only at hSw); (try simp only [List.getElem_toArray, List.getElem_cons_zero, List.getElem_cons_succ]); go_simp; (first | done | with_reducible rfl))
  try simp only [Act.put, List.setIfInBounds_toArray, List.set_cons_zero, List.set_cons_succ, List.getElem_toArray, List.getElem_cons_zero, List.getElem_cons_succ]
  refine E_take (i := 5) (oi := _) (v := ?_) rfl (by kernel_rfl) (fun _ _ _ h => h) ?_ (by assumption) ?_
  rotate_left 1
  · (refine Or.inl ⟨by rfl, ?_⟩; intro w hSw; (try dsimp only at hSw); (try simp only [List.getElem_toArray, List.getElem_cons_zero, List.getElem_cons_succ]); go_simp; (first | done | with_reducible rfl))
  try simp only [Act.put, List.setIfInBounds_toArray, List.set_cons_zero, List.set_cons_succ, List.getElem_toArray, List.getElem_cons_zero, List.getElem_cons_succ]
  refine E_take (i := 6) (oi := _) (v := ?_) rfl (by kernel_rfl) (fun _ _ _ h => h) ?_ (by assumption) ?_
  rotate_left 1
  · (refine Or.inl ⟨by rfl, ?_⟩; intro w hSw; (try dsimp only at hSw); (try simp only [List.getElem_toArray, List.getElem_cons_zero, List.getElem_cons_succ]); go_simp; (first | done | with_reducible rfl))
  try simp only [Act.put, List.setIfInBounds_toArray, List.set_cons_zero, List.set_cons_succ, List.getElem_toArray, List.getElem_cons_zero, List.getElem_cons_succ]
  refine E_take (i := 7) (oi := _) (v := ?_) rfl (by kernel_rfl) (fun _ _ _ h => h) ?_ (by assumption) ?_
  rotate_left 1
  · (refine Or.inl ⟨by rfl, ?_⟩; intro w hSw; (try dsimp only at hSw); (try simp only [List.getElem_toArray, List.getElem_cons_zero, List.getElem_cons_succ]); go_simp; (first | done | with_reducible rfl))
  try simp only [Act.put, List.setIfInBounds_toArray, List.set_cons_zero, List.set_cons_succ, List.getElem_toArray, List.getElem_cons_zero, List.getElem_cons_succ]
  refine E_take (i := 8) (oi := _) (v := ?_) rfl (by kernel_rfl) (fun _ _ _ h => h) ?_ (by assumption) ?_
  rotate_left 1
  · (refine Or.inl ⟨by rfl, ?_⟩; intro w hSw; (try dsimp only at hSw); (try simp only [List.getElem_toArray, List.getElem_cons_zero, List.getElem_cons_succ]); go_simp; (first | done | with_reducible rfl))
  try simp only [Act.put, List.setIfInBounds_toArray, List.set_cons_zero, List.set_cons_succ, List.getElem_toArray, List.getElem_cons_zero, List.getElem_cons_succ]
  refine E_take (i := 9) (oi := _) (v := ?_) rfl (by kernel_rfl) (fun _ _ _ h => h) ?_ (by assumption) ?_
  rotate_left 1
  · (refine Or.inl ⟨by rfl, ?_⟩; intro w hSw; (try dsimp only at hSw); (try simp only [List.getElem_toArray, List.getElem_cons_zero, List.getElem_cons_succ]); go_simp; (first | done | with_reducible rfl))
  try simp only [Act.put, List.setIfInBounds_toArray, List.set_cons_zero, List.set_cons_succ, List.getElem_toArray, List.getElem_cons_zero, List.getElem_cons_succ]
  refine E_take (i := 10) (oi := _) (v := ?_) rfl (by kernel_rfl) (fun _ _ _ h => h) ?_ (by assumption) ?_
  rotate_left 1
  · (refine Or.inl ⟨by rfl, ?_⟩; intro w hSw; (try dsimp only at hSw); (try simp only [List.getElem_toArray, List.getElem_cons_zero, List.getElem_cons_succ]); go_simp; (first | done | with_reducible rfl))
  try simp only [Act.put, List.setIfInBounds_toArray, List.set_cons_zero, List.set_cons_succ, List.getElem_toArray, List.getElem_cons_zero, List.getElem_cons_succ]
  refine E_take (i := 11) (oi := _) (v := ?_) rfl (by kernel_rfl) (fun _ _ _ h => h) ?_ (by assumption) ?_
  rotate_left 1
  · (refine Or.inl ⟨by rfl, ?_⟩; intro w hSw; (try dsimp only at hSw); (try simp only [List.getElem_toArray, List.getElem_cons_zero, List.getElem_cons_succ]); go_simp; (first | done | with_reducible rfl))
  try simp only [Act.put, List.setIfInBounds_toArray, List.set_cons_zero, List.set_cons_succ, List.getElem_toArray, List.getElem_cons_zero, List.getElem_cons_succ]
  refine E_take (i := 12) (oi := _) (v := ?_) rfl (by kernel_rfl) (fun _ _ _ h => h) ?_ (by assumption) ?_
  rotate_left 1
  · (refine Or.inl ⟨by rfl, ?_⟩; intro w hSw; (try dsimp only at hSw); (try simp only [List.getElem_toArray, List.getElem_cons_zero, List.getElem_cons_succ]); go_simp; (first | done | with_reducible rfl))
  try simp only [Act.put, List.setIfInBounds_toArray, List.set_cons_zero, List.set_cons_succ, List.getElem_toArray, List.getElem_cons_zero, List.getElem_cons_succ]
  refine E_last (o := _) (by kernel_rfl) rfl (by kernel_rfl) (fun K hK => ?_)
  try simp only [List.getElem_toArray, List.getElem_cons_zero, List.getElem_cons_succ]
  go_simp
  refine hK.out _ _ ?_
  clear hK K
  clear m1' gm hlt
  obtain ⟨w2, hw2⟩ : ∃ W, (w1.setCell ⟨mb, 1, none⟩ (.int .i64 v1)).drew = W := ⟨_, rfl⟩
  rw [hw2] at B2
  rw [hw2]
  clear hw2 B2' HP K0
  have e0 := B2.out.mi.cells.1
  have Ka : Hid (w2.cell? ⟨cb, 0, none⟩ = some (.pointer (some ⟨mb, 0, none⟩))) := Lib.hid B2.out.mi.cells.1
  have Da := Lib.hid (B2.out.drew H.out)
  clear e0
  go_upto_region 3 with fail
  refine E_start (S := (fun w' => w'.cell? ⟨cb, 0, none⟩ = some (.pointer (some ⟨mb, 0, none⟩)))) 8 (by kernel_rfl) (Ka.out) (fun hHeld => ?_)
  refine E_take (i := 0) (oi := _) (v := ?_) rfl (by kernel_rfl) (fun _ _ _ h => h) ?_ (by assumption) ?_
  rotate_left 1
  · (refine Or.inl ⟨by rfl, ?_⟩; intro w hSw; (try dsimp only at hSw); (try simp only [List.getElem_toArray, List.getElem_cons_zero, List.getElem_cons_succ]); go_simp; (first | done | with_reducible rfl))
  try simp only [Act.put, List.setIfInBounds_toArray, List.set_cons_zero, List.set_cons_succ, List.getElem_toArray, List.getElem_cons_zero, List.getElem_cons_succ]
  refine E_take (i := 1) (oi := _) (v := ?_) rfl (by kernel_rfl) (fun _ _ _ h => h) ?_ (by assumption) ?_
  rotate_left 1
  · (refine Or.inl ⟨by rfl, ?_⟩; intro w hSw; (try dsimp only at hSw); (try simp only [List.getElem_toArray, List.getElem_cons_zero, List.getElem_cons_succ]); go_simp; (first | done | with_reducible rfl))
  try simp only [Act.put, List.setIfInBounds_toArray, List.set_cons_zero, List.set_cons_succ, List.getElem_toArray, List.getElem_cons_zero, List.getElem_cons_succ]
  refine E_take (i := 2) (oi := _) (v := ?_) rfl (by kernel_rfl) (fun _ _ _ h => h) ?_ (by assumption) ?_
  rotate_left 1
  · (refine Or.inl ⟨by rfl, ?_⟩; intro w hSw; (try dsimp only at hSw); (try simp only [List.getElem_toArray, List.getElem_cons_zero, List.getElem_cons_succ]); go_simp; (first | done | with_reducible rfl))
  try simp only [Act.put, List.setIfInBounds_toArray, List.set_cons_zero, List.set_cons_succ, List.getElem_toArray, List.getElem_cons_zero, List.getElem_cons_succ]
  refine E_take (i := 3) (oi := _) (v := ?_) rfl (by kernel_rfl) (fun _ _ _ h => h) ?_ (by assumption) ?_
  rotate_left 1
  · (refine Or.inl ⟨by rfl, ?_⟩; intro w hSw; (try dsimp only at hSw); (try simp only [List.getElem_toArray, List.getElem_cons_zero, List.getElem_cons_succ]); go_simp; (first | done | with_reducible rfl))
  try simp only [Act.put, List.setIfInBounds_toArray, List.set_cons_zero, List.set_cons_succ, List.getElem_toArray, List.getElem_cons_zero, List.getElem_cons_succ]
  refine E_take (i := 4) (oi := _) (v := ?_) rfl (by kernel_rfl) (fun _ _ _ h => h) ?_ (by assumption) ?_
  rotate_left 1
  · (refine Or.inl ⟨by rfl, ?_⟩; intro w hSw; (try dsimp only at hSw); (try simp only [List.getElem_toArray, List.getElem_cons_zero, List.getElem_cons_succ]); go_simp; (first | done | with_reducible rfl))
  try simp only [Act.put, List.setIfInBounds_toArray, List.set_cons_zero, List.set_cons_succ, List.getElem_toArray, List.getElem_cons_zero, List.getElem_cons_succ]
  refine E_ready (rs := [5]) (by kernel_rfl) (by decide) ?_
  refine AllE.cons (o := _) rfl (fun K hK => ?_) AllE.nil
  try simp only [List.getElem_toArray, List.getElem_cons_zero, List.getElem_cons_succ]
  go_simp
  refine (i_pop Da.out.mi).mono ?_
  rintro e w3 ⟨rfl, HC3, HS3⟩
  go_wp2_with fail
  have B3 := Lib.hid (Da.out.next H.out HC3.out HS3.out)
  have La : Hid (w3.cell? ⟨cb, 0, none⟩ = some (.pointer (some ⟨mb, 0, none⟩))) := Lib.hid B3.out.mi.cells.1
  obtain ⟨x0a, x1a, x2a, _, _, _, _, gma⟩ := B3.out.mi.mc.cells
  have hlta := B3.out.mi.mc.lt
  have Pa := Lib.hid (B3.out.mi.setFp (popI ({ s1.1 with sp := v1 }, s1.2)).1)
  refine hK.out _ _ (La.out) (fun hHeld => ?_)
  clear hK K
  try simp only [Act.put, List.setIfInBounds_toArray, List.set_cons_zero, List.set_cons_succ, List.getElem_toArray, List.getElem_cons_zero, List.getElem_cons_succ]
  refine E_take (i := 6) (oi := _) (v := ?_) rfl (by kernel_rfl) (fun _ _ _ h => h) ?_ (by assumption) ?_
  rotate_left 1
  · (refine Or.inl ⟨by rfl, ?_⟩; intro w hSw; (try dsimp only at hSw); (try simp only [List.getElem_toArray, List.getElem_cons_zero, List.getElem_cons_succ]); go_simp; (first | done | with_reducible rfl))
  try simp only [Act.put, List.setIfInBounds_toArray, List.set_cons_zero, List.set_cons_succ, List.getElem_toArray, List.getElem_cons_zero, List.getElem_cons_succ]
  refine E_take (i := 7) (oi := _) (v := ?_) rfl (by kernel_rfl) (fun _ _ _ h => h) ?_ (by assumption) ?_
  rotate_left 1
  · (refine Or.inl ⟨by rfl, ?_⟩; intro w hSw; (try dsimp only at hSw); (try simp only [List.getElem_toArray, List.getElem_cons_zero, List.getElem_cons_succ]); go_simp; (first | done | with_reducible rfl))
  try simp only [Act.put, List.setIfInBounds_toArray, List.set_cons_zero, List.set_cons_succ, List.getElem_toArray, List.getElem_cons_zero, List.getElem_cons_succ]
  refine E_last (o := _) (by kernel_rfl) rfl (by kernel_rfl) (fun K hK => ?_)
  try simp only [List.getElem_toArray, List.getElem_cons_zero, List.getElem_cons_succ]
  go_simp
  refine hK.out _ _ ?_
  clear hK K
  have Ca := Lib.hid (B3.out.next H.out Pa.out.1 Pa.out.2)
  clear x0a x1a x2a gma hlta
  obtain ⟨w4, hw4⟩ : ∃ W, (w3.setCell ⟨mb, 2, none⟩ (.int .i64 (popI ({ s1.1 with sp := v1 }, s1.2)).1)) = W := ⟨_, rfl⟩
  rw [hw4] at Ca
  rw [hw4]
  clear hw4
  have e0 := Ca.out.mi.cells.1
  obtain ⟨s4, hs4⟩ : ∃ x : McS, ({ (popI ({ s1.1 with sp := v1 }, s1.2)).2.1 with fp := (popI ({ s1.1 with sp := v1 }, s1.2)).1 }, (popI ({ s1.1 with sp := v1 }, s1.2)).2.2) = x := ⟨_, rfl⟩
  have HS4 := Lib.hid hs4
  rw [hs4] at Ca
  clear hs4
  have B4 := Ca
  have Kb : Hid (w4.cell? ⟨cb, 0, none⟩ = some (.pointer (some ⟨mb, 0, none⟩))) := Lib.hid B4.out.mi.cells.1
  have Db := Lib.hid (B4.out.drew H.out)
  clear e0
  go_upto_region 4 with fail
  refine E_start (S := (fun w' => w'.cell? ⟨cb, 0, none⟩ = some (.pointer (some ⟨mb, 0, none⟩)))) 8 (by kernel_rfl) (Kb.out) (fun hHeld => ?_)
  refine E_take (i := 0) (oi := _) (v := ?_) rfl (by kernel_rfl) (fun _ _ _ h => h) ?_ (by assumption) ?_
  rotate_left 1
  · (refine Or.inl ⟨by rfl, ?_⟩; intro w hSw; (try dsimp only at hSw); (try simp only [List.getElem_toArray, List.getElem_cons_zero, List.getElem_cons_succ]); go_simp; (first | done | with_reducible rfl))
  try simp only [Act.put, List.setIfInBounds_toArray, List.set_cons_zero, List.set_cons_succ, List.getElem_toArray, List.getElem_cons_zero, List.getElem_cons_succ]
  refine E_take (i := 1) (oi := _) (v := ?_) rfl (by kernel_rfl) (fun _ _ _ h => h) ?_ (by assumption) ?_
  rotate_left 1
  · (refine Or.inl ⟨by rfl, ?_⟩; intro w hSw; (try dsimp only at hSw); (try simp only [List.getElem_toArray, List.getElem_cons_zero, List.getElem_cons_succ]); go_simp; (first | done | with_reducible rfl))
  try simp only [Act.put, List.setIfInBounds_toArray, List.set_cons_zero, List.set_cons_succ, List.getElem_toArray, List.getElem_cons_zero, List.getElem_cons_succ]
  refine E_take (i := 2) (oi := _) (v := ?_) rfl (by kernel_rfl) (fun _ _ _ h => h) ?_ (by assumption) ?_
  rotate_left 1
  · (refine Or.inl ⟨by rfl, ?_⟩; intro w hSw; (try dsimp only at hSw); (try simp only [List.getElem_toArray, List.getElem_cons_zero, List.getElem_cons_succ]); go_simp; (first | done | with_reducible rfl))
  try simp only [Act.put, List.setIfInBounds_toArray, List.set_cons_zero, List.set_cons_succ, List.getElem_toArray, List.getElem_cons_zero, List.getElem_cons_succ]
  refine E_take (i := 3) (oi := _) (v := ?_) rfl (by kernel_rfl) (fun _ _ _ h => h) ?_ (by assumption) ?_
  rotate_left 1
  · (refine Or.inl ⟨by rfl, ?_⟩; intro w hSw; (try dsimp only at hSw); (try simp only [List.getElem_toArray, List.getElem_cons_zero, List.getElem_cons_succ]); go_simp; (first | done | with_reducible rfl))
  try simp only [Act.put, List.setIfInBounds_toArray, List.set_cons_zero, List.set_cons_succ, List.getElem_toArray, List.getElem_cons_zero, List.getElem_cons_succ]
  refine E_take (i := 4) (oi := _) (v := ?_) rfl (by kernel_rfl) (fun _ _ _ h => h) ?_ (by assumption) ?_
  rotate_left 1
  · (refine Or.inl ⟨by rfl, ?_⟩; intro w hSw; (try dsimp only at hSw); (try simp only [List.getElem_toArray, List.getElem_cons_zero, List.getElem_cons_succ]); go_simp; (first | done | with_reducible rfl))
  try simp only [Act.put, List.setIfInBounds_toArray, List.set_cons_zero, List.set_cons_succ, List.getElem_toArray, List.getElem_cons_zero, List.getElem_cons_succ]
  refine E_ready (rs := [5]) (by kernel_rfl) (by decide) ?_
  refine AllE.cons (o := _) rfl (fun K hK => ?_) AllE.nil
  try simp only [List.getElem_toArray, List.getElem_cons_zero, List.getElem_cons_succ]
  go_simp
  refine (i_pop Db.out.mi).mono ?_
  rintro e w5 ⟨rfl, HC5, HS5⟩
  go_wp2_with fail
  have B5 := Lib.hid (Db.out.next H.out HC5.out HS5.out)
  have Lb : Hid (w5.cell? ⟨cb, 0, none⟩ = some (.pointer (some ⟨mb, 0, none⟩))) := Lib.hid B5.out.mi.cells.1
  obtain ⟨x0b, x1b, x2b, _, _, _, _, gmb⟩ := B5.out.mi.mc.cells
  have hltb := B5.out.mi.mc.lt
  have Pb := Lib.hid (B5.out.mi.setPc (popI s4).1)
  refine hK.out _ _ (Lb.out) (fun hHeld => ?_)
  clear hK K
  try simp only [Act.put, List.setIfInBounds_toArray, List.set_cons_zero, List.set_cons_succ, List.getElem_toArray, List.getElem_cons_zero, List.getElem_cons_succ]
  refine E_take (i := 6) (oi := _) (v := ?_) rfl (by kernel_rfl) (fun _ _ _ h => h) ?_ (by assumption) ?_
  rotate_left 1
  · (refine Or.inl ⟨by rfl, ?_⟩; intro w hSw; (try dsimp only at hSw); (try simp only [List.getElem_toArray, List.getElem_cons_zero, List.getElem_cons_succ]); go_simp; (first | done | with_reducible rfl))
  try simp only [Act.put, List.setIfInBounds_toArray, List.set_cons_zero, List.set_cons_succ, List.getElem_toArray, List.getElem_cons_zero, List.getElem_cons_succ]
  refine E_take (i := 7) (oi := _) (v := ?_) rfl (by kernel_rfl) (fun _ _ _ h => h) ?_ (by assumption) ?_
  rotate_left 1
  · (refine Or.inl ⟨by rfl, ?_⟩; intro w hSw; (try dsimp only at hSw); (try simp only [List.getElem_toArray, List.getElem_cons_zero, List.getElem_cons_succ]); go_simp; (first | done | with_reducible rfl))
  try simp only [Act.put, List.setIfInBounds_toArray, List.set_cons_zero, List.set_cons_succ, List.getElem_toArray, List.getElem_cons_zero, List.getElem_cons_succ]
  refine E_last (o := _) (by kernel_rfl) rfl (by kernel_rfl) (fun K hK => ?_)
  try simp only [List.getElem_toArray, List.getElem_cons_zero, List.getElem_cons_succ]
  go_simp
  refine hK.out _ _ ?_
  clear hK K
  have Cb := Lib.hid (B5.out.next H.out Pb.out.1 Pb.out.2)
  clear x0b x1b x2b gmb hltb
  obtain ⟨w6, hw6⟩ : ∃ W, (w5.setCell ⟨mb, 0, none⟩ (.int .i64 (popI s4).1)) = W := ⟨_, rfl⟩
  rw [hw6] at Cb
  rw [hw6]
  clear hw6
  have B6 := Cb
  have b1 := B6.out.b1
  go_wp2_with fail
  refine (i_popAll B6.out.mi n (by omega)).mono ?_
  rintro e w7 ⟨rfl, HC7, HS7⟩
  have B7 := Lib.hid (B6.out.next H.out HC7.out HS7.out)
  clear HC7 HS7
  go_wp2_with fail
  refine (i_push B7.out.mi v).mono ?_
  rintro e w8 ⟨rfl, HC8, HS8⟩
  have B8 := Lib.hid (B7.out.next H.out HC8.out HS8.out)
  clear HC8 HS8
  go_wp2
  go_end0
  refine ⟨rfl, Lib.hid ?_, Lib.hid B8.out.al⟩
  have h := B8.out.mi
  rw [← HV.out, ← HS4.out, ← HV1.out, ← HS1.out] at h
  exact h
set_option maxRecDepth 100000 in
set_option maxHeartbeats 2000000 in
theorem i_giveBack (h : MiAt B cb mb w ev sv ov s) (c a : Int) (ha : 0 ≤ a ∧ a ≤ 70000) : Calls Tryz.prog 87 #[.pointer (some ⟨cb, 0, none⟩), .agg #[.int .i64 c, .int .i64 a]] w (MiR B cb mb ev sv ov (.tuple #[]) (perfI.backM (a.toNat / 16) (a.toNat % 16) (popI s).1 (popI s).2) w) := by
  have H := Lib.hid h
  have B0 := Lib.hid (h.bx c a)
  obtain ⟨n, rfl⟩ : ∃ n : Nat, a = (n : Int) := ⟨a.toNat, (Int.toNat_of_nonneg ha.1).symm⟩
  rw [Int.toNat_natCast]
  unfold perfI.backM
  dsimp only
  have q1 : ((n : Int).tdiv 16) = ((n / 16 : Nat) : Int) := by rw [Int.natCast_ediv, Int.tdiv_eq_ediv_of_nonneg (by omega)]; rfl
  have q2 : ((n : Int).tmod 16) = ((n % 16 : Nat) : Int) := by rw [Int.natCast_emod, Int.tmod_eq_emod_of_nonneg (by omega)]; rfl
  clear h
  go_enter Tryz.func87, Tryz.ntmps87
  go_wp2_with fail
  refine (i_pop B0.out.mi).mono ?_
  rintro e w1 ⟨rfl, HC1, HS1⟩
  have B1 := Lib.hid (B0.out.next H.out HC1.out HS1.out)
  clear HC1 HS1
  obtain ⟨v, hv⟩ : ∃ x, (popI s).1 = x := ⟨_, rfl⟩
  obtain ⟨s1, hs1⟩ : ∃ x, (popI s).2 = x := ⟨_, rfl⟩
  have HV := Lib.hid hv
  have HS1 := Lib.hid hs1
  rw [hv]
  rw [hs1] at B1
  clear hv hs1
  have b1 := B1.out.b1
  go_wp2_with fail
  refine (i_popAll B1.out.mi (n / 16) (by omega)).mono ?_
  rintro e w2 ⟨rfl, HC2, HS2⟩
  have B2 := Lib.hid (B1.out.next H.out HC2.out HS2.out)
  clear HC2 HS2
  have e0 := B2.out.mi.cells.1
  clear b1
  have Ka : Hid (w2.cell? ⟨cb, 0, none⟩ = some (.pointer (some ⟨mb, 0, none⟩))) := Lib.hid B2.out.mi.cells.1
  have Da := Lib.hid (B2.out.drew H.out)
  clear e0
  go_upto_region 3 with fail
  refine E_start (S := (fun w' => w'.cell? ⟨cb, 0, none⟩ = some (.pointer (some ⟨mb, 0, none⟩)))) 8 (by kernel_rfl) (Ka.out) (fun hHeld => ?_)
  refine E_take (i := 0) (oi := _) (v := ?_) rfl (by kernel_rfl) (fun _ _ _ h => h) ?_ (by assumption) ?_
  rotate_left 1
  · (refine Or.inl ⟨by rfl, ?_⟩; intro w hSw; (try dsimp only at hSw); (try simp only [List.getElem_toArray, List.getElem_cons_zero, List.getElem_cons_succ]); go_simp; (first | done | with_reducible rfl))
  try simp only [Act.put, List.setIfInBounds_toArray, List.set_cons_zero, List.set_cons_succ, List.getElem_toArray, List.getElem_cons_zero, List.getElem_cons_succ]
  refine E_take (i := 1) (oi := _) (v := ?_) rfl (by kernel_rfl) (fun _ _ _ h => h) ?_ (by assumption) ?_
  rotate_left 1
  · (refine Or.inl ⟨by rfl, ?_⟩; intro w hSw; (try dsimp only at hSw); (try simp only [List.getElem_toArray, List.getElem_cons_zero, List.getElem_cons_succ]); go_simp; (first | done | with_reducible rfl))
  try simp only [Act.put, List.setIfInBounds_toArray, List.set_cons_zero, List.set_cons_succ, List.getElem_toArray, List.getElem_cons_zero, List.getElem_cons_succ]
  refine E_take (i := 2) (oi := _) (v := ?_) rfl (by kernel_rfl) (fun _ _ _ h => h) ?_ (by assumption) ?_
  rotate_left 1
  · (refine Or.inl ⟨by rfl, ?_⟩; intro w hSw; (try dsimp only at hSw); (try simp only [List.getElem_toArray, List.getElem_cons_zero, List.getElem_cons_succ]); go_simp; (first | done | with_reducible rfl))
  try simp only [Act.put, List.setIfInBounds_toArray, List.set_cons_zero, List.set_cons_succ, List.getElem_toArray, List.getElem_cons_zero, List.getElem_cons_succ]
  refine E_take (i := 3) (oi := _) (v := ?_) rfl (by kernel_rfl) (fun _ _ _ h => h) ?_ (by assumption) ?_
  rotate_left 1
  · (refine Or.inl ⟨by rfl, ?_⟩; intro w hSw; (try dsimp only at hSw); (try simp only [List.getElem_toArray, List.getElem_cons_zero, List.getElem_cons_succ]); go_simp; (first | done | with_reducible rfl))
  try simp only [Act.put, List.setIfInBounds_toArray, List.set_cons_zero, List.set_cons_succ, List.getElem_toArray, List.getElem_cons_zero, List.getElem_cons_succ]
  refine E_take (i := 4) (oi := _) (v := ?_) rfl (by kernel_rfl) (fun _ _ _ h => h) ?_ (by assumption) ?_
  rotate_left 1
  · (refine Or.inl ⟨by rfl, ?_⟩; intro w hSw; (try dsimp only at hSw); (try simp only [List.getElem_toArray, List.getElem_cons_zero, List.getElem_cons_succ]); go_simp; (first | done | with_reducible rfl))
  try simp only [Act.put, List.setIfInBounds_toArray, List.set_cons_zero, List.set_cons_succ, List.getElem_toArray, List.getElem_cons_zero, List.getElem_cons_succ]
  refine E_ready (rs := [5]) (by kernel_rfl) (by decide) ?_
  refine AllE.cons (o := _) rfl (fun K hK => ?_) AllE.nil
  try simp only [List.getElem_toArray, List.getElem_cons_zero, List.getElem_cons_succ]
  go_simp
  refine (i_pop Da.out.mi).mono ?_
  rintro e w3 ⟨rfl, HC3, HS3⟩
  go_wp2_with fail
  have B3 := Lib.hid (Da.out.next H.out HC3.out HS3.out)
  have La : Hid (w3.cell? ⟨cb, 0, none⟩ = some (.pointer (some ⟨mb, 0, none⟩))) := Lib.hid B3.out.mi.cells.1
  obtain ⟨x0a, x1a, x2a, _, _, _, _, gma⟩ := B3.out.mi.mc.cells
  have hlta := B3.out.mi.mc.lt
  have Pa := Lib.hid (B3.out.mi.setPc (popI (dropI (n / 16) s1)).1)
  refine hK.out _ _ (La.out) (fun hHeld => ?_)
  clear hK K
  try simp only [Act.put, List.setIfInBounds_toArray, List.set_cons_zero, List.set_cons_succ, List.getElem_toArray, List.getElem_cons_zero, List.getElem_cons_succ]
  refine E_take (i := 6) (oi := _) (v := ?_) rfl (by kernel_rfl) (fun _ _ _ h => h) ?_ (by assumption) ?_
  rotate_left 1
  · (refine Or.inl ⟨by rfl, ?_⟩; intro w hSw; (try dsimp only at hSw); (try simp only [List.getElem_toArray, List.getElem_cons_zero, List.getElem_cons_succ]); go_simp; (first | done | with_reducible rfl))
  try simp only [Act.put, List.setIfInBounds_toArray, List.set_cons_zero, List.set_cons_succ, List.getElem_toArray, List.getElem_cons_zero, List.getElem_cons_succ]
  refine E_take (i := 7) (oi := _) (v := ?_) rfl (by kernel_rfl) (fun _ _ _ h => h) ?_ (by assumption) ?_
  rotate_left 1
  · (refine Or.inl ⟨by rfl, ?_⟩; intro w hSw; (try dsimp only at hSw); (try simp only [List.getElem_toArray, List.getElem_cons_zero, List.getElem_cons_succ]); go_simp; (first | done | with_reducible rfl))
  try simp only [Act.put, List.setIfInBounds_toArray, List.set_cons_zero, List.set_cons_succ, List.getElem_toArray, List.getElem_cons_zero, List.getElem_cons_succ]
  refine E_last (o := _) (by kernel_rfl) rfl (by kernel_rfl) (fun K hK => ?_)
  try simp only [List.getElem_toArray, List.getElem_cons_zero, List.getElem_cons_succ]
  go_simp
  refine hK.out _ _ ?_
  clear hK K
  have Ca := Lib.hid (B3.out.next H.out Pa.out.1 Pa.out.2)
  clear x0a x1a x2a gma hlta
  obtain ⟨w4, hw4⟩ : ∃ W, (w3.setCell ⟨mb, 0, none⟩ (.int .i64 (popI (dropI (n / 16) s1)).1)) = W := ⟨_, rfl⟩
  rw [hw4] at Ca
  rw [hw4]
  clear hw4
  have B4 := Ca
  have b1 := B4.out.b1
  go_wp2_with fail
  refine (i_popAll B4.out.mi (n % 16) (by omega)).mono ?_
  rintro e w5 ⟨rfl, HC5, HS5⟩
  have B5 := Lib.hid (B4.out.next H.out HC5.out HS5.out)
  clear HC5 HS5
  go_wp2_with fail
  refine (i_push B5.out.mi v).mono ?_
  rintro e w6 ⟨rfl, HC6, HS6⟩
  have B6 := Lib.hid (B5.out.next H.out HC6.out HS6.out)
  clear HC6 HS6
  go_wp2
  go_end0
  refine ⟨rfl, Lib.hid ?_, Lib.hid B6.out.al⟩
  have h := B6.out.mi
  rw [← HV.out, ← HS1.out] at h
  exact h
end
end Go.Proofs.YtakgjlpgcepnkaaGreat
